import Derived.Test.YtiobnojcmeeikaaGreatDoorPart14

namespace Go.Proofs.YtiobnojcmeeikaaGreatDoor
open Go.RowKit Tn

/-- Parts as a value. -/
abbrev prt (k : Int) (g : Bool) (m e : Int) : Value := .agg #[.int .i64 k, .bool g, .int .u64 m, .int .i64 e]
/-- Four cells are written. -/
theorem put4 {w1 : World} {b : Nat} {u0 u1 u2 u3 : Value} (x y z v : Value) (g0 : w1.cell? ⟨b, 0, none⟩ = some u0) (g1 : w1.cell? ⟨b, 1, none⟩ = some u1) (g2 : w1.cell? ⟨b, 2, none⟩ = some u2) (g3 : w1.cell? ⟨b, 3, none⟩ = some u3) :
    let W := (((w1.setCell ⟨b, 0, none⟩ x).setCell ⟨b, 1, none⟩ y).setCell ⟨b, 2, none⟩ z).setCell ⟨b, 3, none⟩ v
    W.cell? ⟨b, 0, none⟩ = some x ∧ W.cell? ⟨b, 1, none⟩ = some y ∧ W.cell? ⟨b, 2, none⟩ = some z ∧ W.cell? ⟨b, 3, none⟩ = some v ∧ ∀ (B : Nat) (w : World), B ≤ b → Below B w w1 → Below B w W := by
  have h1 : (w1.setCell ⟨b, 0, none⟩ x).cell? ⟨b, 1, none⟩ = some u1 := (World.cell?_setCell_other _ _ _ _ (by simp)).trans g1
  have h2 : ((w1.setCell ⟨b, 0, none⟩ x).setCell ⟨b, 1, none⟩ y).cell? ⟨b, 2, none⟩ = some u2 := (World.cell?_setCell_other _ _ _ _ (by simp)).trans ((World.cell?_setCell_other _ _ _ _ (by simp)).trans g2)
  have h3 : (((w1.setCell ⟨b, 0, none⟩ x).setCell ⟨b, 1, none⟩ y).setCell ⟨b, 2, none⟩ z).cell? ⟨b, 3, none⟩ = some u3 := (World.cell?_setCell_other _ _ _ _ (by simp)).trans ((World.cell?_setCell_other _ _ _ _ (by simp)).trans ((World.cell?_setCell_other _ _ _ _ (by simp)).trans g3))
  refine ⟨?_, ?_, ?_, World.cell?_setCell_same _ _ _ h3, fun B w hB h => (((h.setCell (p := ⟨b, 0, none⟩) hB x).setCell (p := ⟨b, 1, none⟩) hB y).setCell (p := ⟨b, 2, none⟩) hB z).setCell (p := ⟨b, 3, none⟩) hB v⟩
  · rw [World.cell?_setCell_other _ _ _ _ (by simp), World.cell?_setCell_other _ _ _ _ (by simp), World.cell?_setCell_other _ _ _ _ (by simp), World.cell?_setCell_same _ _ _ g0]
  · rw [World.cell?_setCell_other _ _ _ _ (by simp), World.cell?_setCell_other _ _ _ _ (by simp), World.cell?_setCell_same _ _ _ h1]
  · rw [World.cell?_setCell_other _ _ _ _ (by simp), World.cell?_setCell_same _ _ _ h2]
set_option maxRecDepth 100000 in
set_option maxHeartbeats 1600000 in
theorem split_w_none (n d f : Int) (g : Bool) (hg : (bits .and .u64 n 9223372036854775808 != 0) = g) (hd : bits .and .u64 (n / 4503599627370496) 2047 = d) (hf : bits .and .u64 n 4503599627370495 = f) (d1 : d = 2047) (f1 : (f != 0) = true) (w : World) :
    Calls Tryz.prog 21 #[fmtW, .int .u64 n] w fun e w' => e = .returned (prt 4 false 0 0) ∧ Below w.heap.size w w' := by
  go_enter Tryz.func21, Tryz.ntmps21
  have K0 : Blk ((w.alloc (.cells #[.int .i64 53, .int .i64 (-1074), .int .i64 971] 59)).alloc (.cells #[.int .i64 0, .bool false, .int .u64 0, .int .i64 0] 42)) w.heap.size #[.int .i64 53, .int .i64 (-1074), .int .i64 971] 59 := (Blk.new w _ _).alloc _
  have K1 := Blk.new (w.alloc (.cells #[.int .i64 53, .int .i64 (-1074), .int .i64 971] 59)) #[.int .i64 0, .bool false, .int .u64 0, .int .i64 0] 42
  have pr : Below w.heap.size w ((w.alloc (.cells #[.int .i64 53, .int .i64 (-1074), .int .i64 971] 59)).alloc (.cells #[.int .i64 0, .bool false, .int .u64 0, .int .i64 0] 42)) := ((Below.refl _ _).alloc (Nat.le_refl _) _).alloc (by simp) _
  simp only [World.size_alloc] at K1
  have h1 : IntKind.i64.wrap 52 = 52 := by decide
  go_wp2_with (first
    | (go_at_call 38; refine (signBit_w _).mono ?_; rintro e w1 ⟨rfl, b1⟩; replace K0 := K0.below b1 K0.lt; replace K1 := K1.below b1 K1.lt; replace pr := bel pr b1; clear b1)
    | fail)
  have L0 := K0.lt
  have e0 : w1.cell? ⟨w.heap.size, 0, none⟩ = some (.int .i64 53) := K0.at 0
  have e1 : w1.cell? ⟨w.heap.size, 1, none⟩ = some (.int .i64 (-1074)) := K0.at 1
  have e2 : w1.cell? ⟨w.heap.size, 2, none⟩ = some (.int .i64 971) := K0.at 2
  go_region_held3 (fun x => x.cell? ⟨w.heap.size, 0, none⟩ = some (.int .i64 53) ∧ x.cell? ⟨w.heap.size, 1, none⟩ = some (.int .i64 (-1074)) ∧ x.cell? ⟨w.heap.size, 2, none⟩ = some (.int .i64 971)) (go_keep) (first
    | (go_at_call 39; refine (topField_w _).mono ?_; rintro e w2 ⟨rfl, b2⟩; have f0 := (b2.cell (p := ⟨w.heap.size, 0, none⟩) L0).trans e0; have f1 := (b2.cell (p := ⟨w.heap.size, 1, none⟩) L0).trans e1; have f2 := (b2.cell (p := ⟨w.heap.size, 2, none⟩) L0).trans e2)
    | fail)
  replace K0 := K0.below (below_undrew b2) K0.lt
  replace K1 := K1.below (below_undrew b2) K1.lt
  replace pr := bel_drew pr b2
  clear b2 e0 e1 e2 L0
  go_wp2_with (first
    | (go_at_call 40; refine (leastNormal_w _).mono ?_; rintro e w3 ⟨rfl, b3⟩; replace K0 := K0.below b3 K0.lt; replace K1 := K1.below b3 K1.lt; replace pr := bel pr b3; clear b3; have e0 : w3.cell? ⟨w.heap.size, 0, none⟩ = some (.int .i64 53) := K0.at 0; have e1 : w3.cell? ⟨w.heap.size, 1, none⟩ = some (.int .i64 (-1074)) := K0.at 1; have e2 : w3.cell? ⟨w.heap.size, 2, none⟩ = some (.int .i64 971) := K0.at 2; have c0 : w3.cell? ⟨w.heap.size + 1, 0, none⟩ = some (.int .i64 0) := K1.at 0; have c1 : w3.cell? ⟨w.heap.size + 1, 1, none⟩ = some (.bool false) := K1.at 1; have c2 : w3.cell? ⟨w.heap.size + 1, 2, none⟩ = some (.int .u64 0) := K1.at 2; have c3 : w3.cell? ⟨w.heap.size + 1, 3, none⟩ = some (.int .i64 0) := K1.at 3; have z0 := K1.free 0; have z1 := K1.free 1; have z2 := K1.free 2; have z3 := K1.free 3)
    | (go_at_call 39; refine (topField_w _).mono ?_; rintro e w3 ⟨rfl, b3⟩; replace K0 := K0.below b3 K0.lt; replace K1 := K1.below b3 K1.lt; replace pr := bel pr b3; clear b3; have e0 : w3.cell? ⟨w.heap.size, 0, none⟩ = some (.int .i64 53) := K0.at 0; have e1 : w3.cell? ⟨w.heap.size, 1, none⟩ = some (.int .i64 (-1074)) := K0.at 1; have e2 : w3.cell? ⟨w.heap.size, 2, none⟩ = some (.int .i64 971) := K0.at 2; have c0 : w3.cell? ⟨w.heap.size + 1, 0, none⟩ = some (.int .i64 0) := K1.at 0; have c1 : w3.cell? ⟨w.heap.size + 1, 1, none⟩ = some (.bool false) := K1.at 1; have c2 : w3.cell? ⟨w.heap.size + 1, 2, none⟩ = some (.int .u64 0) := K1.at 2; have c3 : w3.cell? ⟨w.heap.size + 1, 3, none⟩ = some (.int .i64 0) := K1.at 3; have z0 := K1.free 0; have z1 := K1.free 1; have z2 := K1.free 2; have z3 := K1.free 3)
    | fail)
  obtain ⟨F0, F1, F2, F3, FB⟩ := put4 (.int .i64 4) (.bool false) (.int .u64 0) (.int .i64 0) c0 c1 c2 c3
  exact bodyPost_ret (v := prt 4 false 0 0) (by simp [results, Tryz.results21, go_sem, F0, F1, F2, F3]) rfl ⟨rfl, FB _ _ (by omega) pr⟩
set_option maxRecDepth 100000 in
set_option maxHeartbeats 1600000 in
theorem split_w_inf (n d f : Int) (g : Bool) (hg : (bits .and .u64 n 9223372036854775808 != 0) = g) (hd : bits .and .u64 (n / 4503599627370496) 2047 = d) (hf : bits .and .u64 n 4503599627370495 = f) (d1 : d = 2047) (f1 : (f != 0) = false) (w : World) :
    Calls Tryz.prog 21 #[fmtW, .int .u64 n] w fun e w' => e = .returned (prt 3 g 0 0) ∧ Below w.heap.size w w' := by
  go_enter Tryz.func21, Tryz.ntmps21
  have K0 : Blk ((w.alloc (.cells #[.int .i64 53, .int .i64 (-1074), .int .i64 971] 59)).alloc (.cells #[.int .i64 0, .bool false, .int .u64 0, .int .i64 0] 42)) w.heap.size #[.int .i64 53, .int .i64 (-1074), .int .i64 971] 59 := (Blk.new w _ _).alloc _
  have K1 := Blk.new (w.alloc (.cells #[.int .i64 53, .int .i64 (-1074), .int .i64 971] 59)) #[.int .i64 0, .bool false, .int .u64 0, .int .i64 0] 42
  have pr : Below w.heap.size w ((w.alloc (.cells #[.int .i64 53, .int .i64 (-1074), .int .i64 971] 59)).alloc (.cells #[.int .i64 0, .bool false, .int .u64 0, .int .i64 0] 42)) := ((Below.refl _ _).alloc (Nat.le_refl _) _).alloc (by simp) _
  simp only [World.size_alloc] at K1
  have h1 : IntKind.i64.wrap 52 = 52 := by decide
  go_wp2_with (first
    | (go_at_call 38; refine (signBit_w _).mono ?_; rintro e w1 ⟨rfl, b1⟩; replace K0 := K0.below b1 K0.lt; replace K1 := K1.below b1 K1.lt; replace pr := bel pr b1; clear b1)
    | fail)
  have L0 := K0.lt
  have e0 : w1.cell? ⟨w.heap.size, 0, none⟩ = some (.int .i64 53) := K0.at 0
  have e1 : w1.cell? ⟨w.heap.size, 1, none⟩ = some (.int .i64 (-1074)) := K0.at 1
  have e2 : w1.cell? ⟨w.heap.size, 2, none⟩ = some (.int .i64 971) := K0.at 2
  go_region_held3 (fun x => x.cell? ⟨w.heap.size, 0, none⟩ = some (.int .i64 53) ∧ x.cell? ⟨w.heap.size, 1, none⟩ = some (.int .i64 (-1074)) ∧ x.cell? ⟨w.heap.size, 2, none⟩ = some (.int .i64 971)) (go_keep) (first
    | (go_at_call 39; refine (topField_w _).mono ?_; rintro e w2 ⟨rfl, b2⟩; have f0 := (b2.cell (p := ⟨w.heap.size, 0, none⟩) L0).trans e0; have f1 := (b2.cell (p := ⟨w.heap.size, 1, none⟩) L0).trans e1; have f2 := (b2.cell (p := ⟨w.heap.size, 2, none⟩) L0).trans e2)
    | fail)
  replace K0 := K0.below (below_undrew b2) K0.lt
  replace K1 := K1.below (below_undrew b2) K1.lt
  replace pr := bel_drew pr b2
  clear b2 e0 e1 e2 L0
  go_wp2_with (first
    | (go_at_call 40; refine (leastNormal_w _).mono ?_; rintro e w3 ⟨rfl, b3⟩; replace K0 := K0.below b3 K0.lt; replace K1 := K1.below b3 K1.lt; replace pr := bel pr b3; clear b3; have e0 : w3.cell? ⟨w.heap.size, 0, none⟩ = some (.int .i64 53) := K0.at 0; have e1 : w3.cell? ⟨w.heap.size, 1, none⟩ = some (.int .i64 (-1074)) := K0.at 1; have e2 : w3.cell? ⟨w.heap.size, 2, none⟩ = some (.int .i64 971) := K0.at 2; have c0 : w3.cell? ⟨w.heap.size + 1, 0, none⟩ = some (.int .i64 0) := K1.at 0; have c1 : w3.cell? ⟨w.heap.size + 1, 1, none⟩ = some (.bool false) := K1.at 1; have c2 : w3.cell? ⟨w.heap.size + 1, 2, none⟩ = some (.int .u64 0) := K1.at 2; have c3 : w3.cell? ⟨w.heap.size + 1, 3, none⟩ = some (.int .i64 0) := K1.at 3; have z0 := K1.free 0; have z1 := K1.free 1; have z2 := K1.free 2; have z3 := K1.free 3)
    | (go_at_call 39; refine (topField_w _).mono ?_; rintro e w3 ⟨rfl, b3⟩; replace K0 := K0.below b3 K0.lt; replace K1 := K1.below b3 K1.lt; replace pr := bel pr b3; clear b3; have e0 : w3.cell? ⟨w.heap.size, 0, none⟩ = some (.int .i64 53) := K0.at 0; have e1 : w3.cell? ⟨w.heap.size, 1, none⟩ = some (.int .i64 (-1074)) := K0.at 1; have e2 : w3.cell? ⟨w.heap.size, 2, none⟩ = some (.int .i64 971) := K0.at 2; have c0 : w3.cell? ⟨w.heap.size + 1, 0, none⟩ = some (.int .i64 0) := K1.at 0; have c1 : w3.cell? ⟨w.heap.size + 1, 1, none⟩ = some (.bool false) := K1.at 1; have c2 : w3.cell? ⟨w.heap.size + 1, 2, none⟩ = some (.int .u64 0) := K1.at 2; have c3 : w3.cell? ⟨w.heap.size + 1, 3, none⟩ = some (.int .i64 0) := K1.at 3; have z0 := K1.free 0; have z1 := K1.free 1; have z2 := K1.free 2; have z3 := K1.free 3)
    | fail)
  obtain ⟨F0, F1, F2, F3, FB⟩ := put4 (.int .i64 3) (.bool g) (.int .u64 0) (.int .i64 0) c0 c1 c2 c3
  exact bodyPost_ret (v := prt 3 g 0 0) (by simp [results, Tryz.results21, go_sem, F0, F1, F2, F3]) rfl ⟨rfl, FB _ _ (by omega) pr⟩
set_option maxRecDepth 100000 in
set_option maxHeartbeats 1600000 in
theorem split_w_small (n d f : Int) (g : Bool) (hg : (bits .and .u64 n 9223372036854775808 != 0) = g) (hd : bits .and .u64 (n / 4503599627370496) 2047 = d) (hf : bits .and .u64 n 4503599627370495 = f) (d1 : d = 0) (f1 : (f != 0) = true) (w : World) :
    Calls Tryz.prog 21 #[fmtW, .int .u64 n] w fun e w' => e = .returned (prt 1 g f (-1074)) ∧ Below w.heap.size w w' := by
  go_enter Tryz.func21, Tryz.ntmps21
  have K0 : Blk ((w.alloc (.cells #[.int .i64 53, .int .i64 (-1074), .int .i64 971] 59)).alloc (.cells #[.int .i64 0, .bool false, .int .u64 0, .int .i64 0] 42)) w.heap.size #[.int .i64 53, .int .i64 (-1074), .int .i64 971] 59 := (Blk.new w _ _).alloc _
  have K1 := Blk.new (w.alloc (.cells #[.int .i64 53, .int .i64 (-1074), .int .i64 971] 59)) #[.int .i64 0, .bool false, .int .u64 0, .int .i64 0] 42
  have pr : Below w.heap.size w ((w.alloc (.cells #[.int .i64 53, .int .i64 (-1074), .int .i64 971] 59)).alloc (.cells #[.int .i64 0, .bool false, .int .u64 0, .int .i64 0] 42)) := ((Below.refl _ _).alloc (Nat.le_refl _) _).alloc (by simp) _
  simp only [World.size_alloc] at K1
  have h1 : IntKind.i64.wrap 52 = 52 := by decide
  go_wp2_with (first
    | (go_at_call 38; refine (signBit_w _).mono ?_; rintro e w1 ⟨rfl, b1⟩; replace K0 := K0.below b1 K0.lt; replace K1 := K1.below b1 K1.lt; replace pr := bel pr b1; clear b1)
    | fail)
  have L0 := K0.lt
  have e0 : w1.cell? ⟨w.heap.size, 0, none⟩ = some (.int .i64 53) := K0.at 0
  have e1 : w1.cell? ⟨w.heap.size, 1, none⟩ = some (.int .i64 (-1074)) := K0.at 1
  have e2 : w1.cell? ⟨w.heap.size, 2, none⟩ = some (.int .i64 971) := K0.at 2
  go_region_held3 (fun x => x.cell? ⟨w.heap.size, 0, none⟩ = some (.int .i64 53) ∧ x.cell? ⟨w.heap.size, 1, none⟩ = some (.int .i64 (-1074)) ∧ x.cell? ⟨w.heap.size, 2, none⟩ = some (.int .i64 971)) (go_keep) (first
    | (go_at_call 39; refine (topField_w _).mono ?_; rintro e w2 ⟨rfl, b2⟩; have f0 := (b2.cell (p := ⟨w.heap.size, 0, none⟩) L0).trans e0; have f1 := (b2.cell (p := ⟨w.heap.size, 1, none⟩) L0).trans e1; have f2 := (b2.cell (p := ⟨w.heap.size, 2, none⟩) L0).trans e2)
    | fail)
  replace K0 := K0.below (below_undrew b2) K0.lt
  replace K1 := K1.below (below_undrew b2) K1.lt
  replace pr := bel_drew pr b2
  clear b2 e0 e1 e2 L0
  go_wp2_with (first
    | (go_at_call 40; refine (leastNormal_w _).mono ?_; rintro e w3 ⟨rfl, b3⟩; replace K0 := K0.below b3 K0.lt; replace K1 := K1.below b3 K1.lt; replace pr := bel pr b3; clear b3; have e0 : w3.cell? ⟨w.heap.size, 0, none⟩ = some (.int .i64 53) := K0.at 0; have e1 : w3.cell? ⟨w.heap.size, 1, none⟩ = some (.int .i64 (-1074)) := K0.at 1; have e2 : w3.cell? ⟨w.heap.size, 2, none⟩ = some (.int .i64 971) := K0.at 2; have c0 : w3.cell? ⟨w.heap.size + 1, 0, none⟩ = some (.int .i64 0) := K1.at 0; have c1 : w3.cell? ⟨w.heap.size + 1, 1, none⟩ = some (.bool false) := K1.at 1; have c2 : w3.cell? ⟨w.heap.size + 1, 2, none⟩ = some (.int .u64 0) := K1.at 2; have c3 : w3.cell? ⟨w.heap.size + 1, 3, none⟩ = some (.int .i64 0) := K1.at 3; have z0 := K1.free 0; have z1 := K1.free 1; have z2 := K1.free 2; have z3 := K1.free 3)
    | (go_at_call 39; refine (topField_w _).mono ?_; rintro e w3 ⟨rfl, b3⟩; replace K0 := K0.below b3 K0.lt; replace K1 := K1.below b3 K1.lt; replace pr := bel pr b3; clear b3; have e0 : w3.cell? ⟨w.heap.size, 0, none⟩ = some (.int .i64 53) := K0.at 0; have e1 : w3.cell? ⟨w.heap.size, 1, none⟩ = some (.int .i64 (-1074)) := K0.at 1; have e2 : w3.cell? ⟨w.heap.size, 2, none⟩ = some (.int .i64 971) := K0.at 2; have c0 : w3.cell? ⟨w.heap.size + 1, 0, none⟩ = some (.int .i64 0) := K1.at 0; have c1 : w3.cell? ⟨w.heap.size + 1, 1, none⟩ = some (.bool false) := K1.at 1; have c2 : w3.cell? ⟨w.heap.size + 1, 2, none⟩ = some (.int .u64 0) := K1.at 2; have c3 : w3.cell? ⟨w.heap.size + 1, 3, none⟩ = some (.int .i64 0) := K1.at 3; have z0 := K1.free 0; have z1 := K1.free 1; have z2 := K1.free 2; have z3 := K1.free 3)
    | fail)
  obtain ⟨F0, F1, F2, F3, FB⟩ := put4 (.int .i64 1) (.bool g) (.int .u64 f) (.int .i64 (-1074)) c0 c1 c2 c3
  exact bodyPost_ret (v := prt 1 g f (-1074)) (by simp [results, Tryz.results21, go_sem, F0, F1, F2, F3]) rfl ⟨rfl, FB _ _ (by omega) pr⟩
set_option maxRecDepth 100000 in
set_option maxHeartbeats 1600000 in
theorem split_w_nought (n d f : Int) (g : Bool) (hg : (bits .and .u64 n 9223372036854775808 != 0) = g) (hd : bits .and .u64 (n / 4503599627370496) 2047 = d) (hf : bits .and .u64 n 4503599627370495 = f) (d1 : d = 0) (f1 : (f != 0) = false) (w : World) :
    Calls Tryz.prog 21 #[fmtW, .int .u64 n] w fun e w' => e = .returned (prt 0 g 0 0) ∧ Below w.heap.size w w' := by
  go_enter Tryz.func21, Tryz.ntmps21
  have K0 : Blk ((w.alloc (.cells #[.int .i64 53, .int .i64 (-1074), .int .i64 971] 59)).alloc (.cells #[.int .i64 0, .bool false, .int .u64 0, .int .i64 0] 42)) w.heap.size #[.int .i64 53, .int .i64 (-1074), .int .i64 971] 59 := (Blk.new w _ _).alloc _
  have K1 := Blk.new (w.alloc (.cells #[.int .i64 53, .int .i64 (-1074), .int .i64 971] 59)) #[.int .i64 0, .bool false, .int .u64 0, .int .i64 0] 42
  have pr : Below w.heap.size w ((w.alloc (.cells #[.int .i64 53, .int .i64 (-1074), .int .i64 971] 59)).alloc (.cells #[.int .i64 0, .bool false, .int .u64 0, .int .i64 0] 42)) := ((Below.refl _ _).alloc (Nat.le_refl _) _).alloc (by simp) _
  simp only [World.size_alloc] at K1
  have h1 : IntKind.i64.wrap 52 = 52 := by decide
  go_wp2_with (first
    | (go_at_call 38; refine (signBit_w _).mono ?_; rintro e w1 ⟨rfl, b1⟩; replace K0 := K0.below b1 K0.lt; replace K1 := K1.below b1 K1.lt; replace pr := bel pr b1; clear b1)
    | fail)
  have L0 := K0.lt
  have e0 : w1.cell? ⟨w.heap.size, 0, none⟩ = some (.int .i64 53) := K0.at 0
  have e1 : w1.cell? ⟨w.heap.size, 1, none⟩ = some (.int .i64 (-1074)) := K0.at 1
  have e2 : w1.cell? ⟨w.heap.size, 2, none⟩ = some (.int .i64 971) := K0.at 2
  go_region_held3 (fun x => x.cell? ⟨w.heap.size, 0, none⟩ = some (.int .i64 53) ∧ x.cell? ⟨w.heap.size, 1, none⟩ = some (.int .i64 (-1074)) ∧ x.cell? ⟨w.heap.size, 2, none⟩ = some (.int .i64 971)) (go_keep) (first
    | (go_at_call 39; refine (topField_w _).mono ?_; rintro e w2 ⟨rfl, b2⟩; have f0 := (b2.cell (p := ⟨w.heap.size, 0, none⟩) L0).trans e0; have f1 := (b2.cell (p := ⟨w.heap.size, 1, none⟩) L0).trans e1; have f2 := (b2.cell (p := ⟨w.heap.size, 2, none⟩) L0).trans e2)
    | fail)
  replace K0 := K0.below (below_undrew b2) K0.lt
  replace K1 := K1.below (below_undrew b2) K1.lt
  replace pr := bel_drew pr b2
  clear b2 e0 e1 e2 L0
  go_wp2_with (first
    | (go_at_call 40; refine (leastNormal_w _).mono ?_; rintro e w3 ⟨rfl, b3⟩; replace K0 := K0.below b3 K0.lt; replace K1 := K1.below b3 K1.lt; replace pr := bel pr b3; clear b3; have e0 : w3.cell? ⟨w.heap.size, 0, none⟩ = some (.int .i64 53) := K0.at 0; have e1 : w3.cell? ⟨w.heap.size, 1, none⟩ = some (.int .i64 (-1074)) := K0.at 1; have e2 : w3.cell? ⟨w.heap.size, 2, none⟩ = some (.int .i64 971) := K0.at 2; have c0 : w3.cell? ⟨w.heap.size + 1, 0, none⟩ = some (.int .i64 0) := K1.at 0; have c1 : w3.cell? ⟨w.heap.size + 1, 1, none⟩ = some (.bool false) := K1.at 1; have c2 : w3.cell? ⟨w.heap.size + 1, 2, none⟩ = some (.int .u64 0) := K1.at 2; have c3 : w3.cell? ⟨w.heap.size + 1, 3, none⟩ = some (.int .i64 0) := K1.at 3; have z0 := K1.free 0; have z1 := K1.free 1; have z2 := K1.free 2; have z3 := K1.free 3)
    | (go_at_call 39; refine (topField_w _).mono ?_; rintro e w3 ⟨rfl, b3⟩; replace K0 := K0.below b3 K0.lt; replace K1 := K1.below b3 K1.lt; replace pr := bel pr b3; clear b3; have e0 : w3.cell? ⟨w.heap.size, 0, none⟩ = some (.int .i64 53) := K0.at 0; have e1 : w3.cell? ⟨w.heap.size, 1, none⟩ = some (.int .i64 (-1074)) := K0.at 1; have e2 : w3.cell? ⟨w.heap.size, 2, none⟩ = some (.int .i64 971) := K0.at 2; have c0 : w3.cell? ⟨w.heap.size + 1, 0, none⟩ = some (.int .i64 0) := K1.at 0; have c1 : w3.cell? ⟨w.heap.size + 1, 1, none⟩ = some (.bool false) := K1.at 1; have c2 : w3.cell? ⟨w.heap.size + 1, 2, none⟩ = some (.int .u64 0) := K1.at 2; have c3 : w3.cell? ⟨w.heap.size + 1, 3, none⟩ = some (.int .i64 0) := K1.at 3; have z0 := K1.free 0; have z1 := K1.free 1; have z2 := K1.free 2; have z3 := K1.free 3)
    | fail)
  obtain ⟨F0, F1, F2, F3, FB⟩ := put4 (.int .i64 0) (.bool g) (.int .u64 0) (.int .i64 0) c0 c1 c2 c3
  exact bodyPost_ret (v := prt 0 g 0 0) (by simp [results, Tryz.results21, go_sem, F0, F1, F2, F3]) rfl ⟨rfl, FB _ _ (by omega) pr⟩
set_option maxRecDepth 100000 in
set_option maxHeartbeats 1600000 in
theorem split_w_normal (n d f s : Int) (g : Bool) (hg : (bits .and .u64 n 9223372036854775808 != 0) = g) (hd : bits .and .u64 (n / 4503599627370496) 2047 = d) (hf : bits .and .u64 n 4503599627370495 = f) (d1 : (d != 0) = true) (d2 : (d == 2047) = false) (hs : bits .or .u64 f 4503599627370496 = s) (hx1 : IntKind.i64.wrap d = d) (hx2 : IntKind.i64.wrap (d - 1) = d - 1) (hx3 : IntKind.i64.wrap (d - 1 + -1074) = d - 1 + -1074) (w : World) :
    Calls Tryz.prog 21 #[fmtW, .int .u64 n] w fun e w' => e = .returned (prt 2 g s (d - 1 + -1074)) ∧ Below w.heap.size w w' := by
  go_enter Tryz.func21, Tryz.ntmps21
  have K0 : Blk ((w.alloc (.cells #[.int .i64 53, .int .i64 (-1074), .int .i64 971] 59)).alloc (.cells #[.int .i64 0, .bool false, .int .u64 0, .int .i64 0] 42)) w.heap.size #[.int .i64 53, .int .i64 (-1074), .int .i64 971] 59 := (Blk.new w _ _).alloc _
  have K1 := Blk.new (w.alloc (.cells #[.int .i64 53, .int .i64 (-1074), .int .i64 971] 59)) #[.int .i64 0, .bool false, .int .u64 0, .int .i64 0] 42
  have pr : Below w.heap.size w ((w.alloc (.cells #[.int .i64 53, .int .i64 (-1074), .int .i64 971] 59)).alloc (.cells #[.int .i64 0, .bool false, .int .u64 0, .int .i64 0] 42)) := ((Below.refl _ _).alloc (Nat.le_refl _) _).alloc (by simp) _
  simp only [World.size_alloc] at K1
  have h1 : IntKind.i64.wrap 52 = 52 := by decide
  go_wp2_with (first
    | (go_at_call 38; refine (signBit_w _).mono ?_; rintro e w1 ⟨rfl, b1⟩; replace K0 := K0.below b1 K0.lt; replace K1 := K1.below b1 K1.lt; replace pr := bel pr b1; clear b1)
    | fail)
  have L0 := K0.lt
  have e0 : w1.cell? ⟨w.heap.size, 0, none⟩ = some (.int .i64 53) := K0.at 0
  have e1 : w1.cell? ⟨w.heap.size, 1, none⟩ = some (.int .i64 (-1074)) := K0.at 1
  have e2 : w1.cell? ⟨w.heap.size, 2, none⟩ = some (.int .i64 971) := K0.at 2
  go_region_held3 (fun x => x.cell? ⟨w.heap.size, 0, none⟩ = some (.int .i64 53) ∧ x.cell? ⟨w.heap.size, 1, none⟩ = some (.int .i64 (-1074)) ∧ x.cell? ⟨w.heap.size, 2, none⟩ = some (.int .i64 971)) (go_keep) (first
    | (go_at_call 39; refine (topField_w _).mono ?_; rintro e w2 ⟨rfl, b2⟩; have f0 := (b2.cell (p := ⟨w.heap.size, 0, none⟩) L0).trans e0; have f1 := (b2.cell (p := ⟨w.heap.size, 1, none⟩) L0).trans e1; have f2 := (b2.cell (p := ⟨w.heap.size, 2, none⟩) L0).trans e2)
    | fail)
  replace K0 := K0.below (below_undrew b2) K0.lt
  replace K1 := K1.below (below_undrew b2) K1.lt
  replace pr := bel_drew pr b2
  clear b2 e0 e1 e2 L0
  go_wp2_with (first
    | (go_at_call 40; refine (leastNormal_w _).mono ?_; rintro e w3 ⟨rfl, b3⟩; replace K0 := K0.below b3 K0.lt; replace K1 := K1.below b3 K1.lt; replace pr := bel pr b3; clear b3; have e0 : w3.cell? ⟨w.heap.size, 0, none⟩ = some (.int .i64 53) := K0.at 0; have e1 : w3.cell? ⟨w.heap.size, 1, none⟩ = some (.int .i64 (-1074)) := K0.at 1; have e2 : w3.cell? ⟨w.heap.size, 2, none⟩ = some (.int .i64 971) := K0.at 2; have c0 : w3.cell? ⟨w.heap.size + 1, 0, none⟩ = some (.int .i64 0) := K1.at 0; have c1 : w3.cell? ⟨w.heap.size + 1, 1, none⟩ = some (.bool false) := K1.at 1; have c2 : w3.cell? ⟨w.heap.size + 1, 2, none⟩ = some (.int .u64 0) := K1.at 2; have c3 : w3.cell? ⟨w.heap.size + 1, 3, none⟩ = some (.int .i64 0) := K1.at 3; have z0 := K1.free 0; have z1 := K1.free 1; have z2 := K1.free 2; have z3 := K1.free 3)
    | (go_at_call 39; refine (topField_w _).mono ?_; rintro e w3 ⟨rfl, b3⟩; replace K0 := K0.below b3 K0.lt; replace K1 := K1.below b3 K1.lt; replace pr := bel pr b3; clear b3; have e0 : w3.cell? ⟨w.heap.size, 0, none⟩ = some (.int .i64 53) := K0.at 0; have e1 : w3.cell? ⟨w.heap.size, 1, none⟩ = some (.int .i64 (-1074)) := K0.at 1; have e2 : w3.cell? ⟨w.heap.size, 2, none⟩ = some (.int .i64 971) := K0.at 2; have c0 : w3.cell? ⟨w.heap.size + 1, 0, none⟩ = some (.int .i64 0) := K1.at 0; have c1 : w3.cell? ⟨w.heap.size + 1, 1, none⟩ = some (.bool false) := K1.at 1; have c2 : w3.cell? ⟨w.heap.size + 1, 2, none⟩ = some (.int .u64 0) := K1.at 2; have c3 : w3.cell? ⟨w.heap.size + 1, 3, none⟩ = some (.int .i64 0) := K1.at 3; have z0 := K1.free 0; have z1 := K1.free 1; have z2 := K1.free 2; have z3 := K1.free 3)
    | fail)
  have M0 := K0
  have M1 := K1
  go_region_held3 (fun x => x.cell? ⟨w.heap.size, 0, none⟩ = some (.int .i64 53) ∧ x.cell? ⟨w.heap.size, 1, none⟩ = some (.int .i64 (-1074)) ∧ x.cell? ⟨w.heap.size, 2, none⟩ = some (.int .i64 971)) (go_keep) (first
    | (go_at_call 40; refine (leastNormal_w _).mono ?_; rintro e w4 ⟨rfl, b4⟩; replace K0 := M0.below (below_undrew b4) M0.lt; replace K1 := M1.below (below_undrew b4) M1.lt; have e0 : w4.cell? ⟨w.heap.size, 0, none⟩ = some (.int .i64 53) := K0.at 0; have e1 : w4.cell? ⟨w.heap.size, 1, none⟩ = some (.int .i64 (-1074)) := K0.at 1; have e2 : w4.cell? ⟨w.heap.size, 2, none⟩ = some (.int .i64 971) := K0.at 2; have c0 : w4.cell? ⟨w.heap.size + 1, 0, none⟩ = some (.int .i64 0) := K1.at 0; have c1 : w4.cell? ⟨w.heap.size + 1, 1, none⟩ = some (.bool false) := K1.at 1; have c2 : w4.cell? ⟨w.heap.size + 1, 2, none⟩ = some (.int .u64 0) := K1.at 2; have c3 : w4.cell? ⟨w.heap.size + 1, 3, none⟩ = some (.int .i64 0) := K1.at 3; have z0 := K1.free 0; have z1 := K1.free 1; have z2 := K1.free 2; have z3 := K1.free 3)
    | fail)
  replace pr := bel_drew pr b4
  obtain ⟨F0, F1, F2, F3, FB⟩ := put4 (.int .i64 2) (.bool g) (.int .u64 s) (.int .i64 (d - 1 + -1074)) c0 c1 c2 c3
  go_wp2
  exact bodyPost_ret (v := prt 2 g s (d - 1 + -1074)) (by simp [results, Tryz.results21, go_sem, F0, F1, F2, F3]) rfl ⟨rfl, FB _ _ (by omega) pr⟩
set_option maxRecDepth 100000 in
set_option maxHeartbeats 1600000 in
theorem split_s_none (n d f : Int) (g : Bool) (hg : (bits .and .u64 n 2147483648 != 0) = g) (hd : bits .and .u64 (n / 8388608) 255 = d) (hf : bits .and .u64 n 8388607 = f) (d1 : d = 255) (f1 : (f != 0) = true) (w : World) :
    Calls Tryz.prog 21 #[fmtS, .int .u64 n] w fun e w' => e = .returned (prt 4 false 0 0) ∧ Below w.heap.size w w' := by
  go_enter Tryz.func21, Tryz.ntmps21
  have K0 : Blk ((w.alloc (.cells #[.int .i64 24, .int .i64 (-149), .int .i64 104] 59)).alloc (.cells #[.int .i64 0, .bool false, .int .u64 0, .int .i64 0] 42)) w.heap.size #[.int .i64 24, .int .i64 (-149), .int .i64 104] 59 := (Blk.new w _ _).alloc _
  have K1 := Blk.new (w.alloc (.cells #[.int .i64 24, .int .i64 (-149), .int .i64 104] 59)) #[.int .i64 0, .bool false, .int .u64 0, .int .i64 0] 42
  have pr : Below w.heap.size w ((w.alloc (.cells #[.int .i64 24, .int .i64 (-149), .int .i64 104] 59)).alloc (.cells #[.int .i64 0, .bool false, .int .u64 0, .int .i64 0] 42)) := ((Below.refl _ _).alloc (Nat.le_refl _) _).alloc (by simp) _
  simp only [World.size_alloc] at K1
  have h1 : IntKind.i64.wrap 23 = 23 := by decide
  go_wp2_with (first
    | (go_at_call 38; refine (signBit_s _).mono ?_; rintro e w1 ⟨rfl, b1⟩; replace K0 := K0.below b1 K0.lt; replace K1 := K1.below b1 K1.lt; replace pr := bel pr b1; clear b1)
    | fail)
  have L0 := K0.lt
  have e0 : w1.cell? ⟨w.heap.size, 0, none⟩ = some (.int .i64 24) := K0.at 0
  have e1 : w1.cell? ⟨w.heap.size, 1, none⟩ = some (.int .i64 (-149)) := K0.at 1
  have e2 : w1.cell? ⟨w.heap.size, 2, none⟩ = some (.int .i64 104) := K0.at 2
  go_region_held3 (fun x => x.cell? ⟨w.heap.size, 0, none⟩ = some (.int .i64 24) ∧ x.cell? ⟨w.heap.size, 1, none⟩ = some (.int .i64 (-149)) ∧ x.cell? ⟨w.heap.size, 2, none⟩ = some (.int .i64 104)) (go_keep) (first
    | (go_at_call 39; refine (topField_s _).mono ?_; rintro e w2 ⟨rfl, b2⟩; have f0 := (b2.cell (p := ⟨w.heap.size, 0, none⟩) L0).trans e0; have f1 := (b2.cell (p := ⟨w.heap.size, 1, none⟩) L0).trans e1; have f2 := (b2.cell (p := ⟨w.heap.size, 2, none⟩) L0).trans e2)
    | fail)
  replace K0 := K0.below (below_undrew b2) K0.lt
  replace K1 := K1.below (below_undrew b2) K1.lt
  replace pr := bel_drew pr b2
  clear b2 e0 e1 e2 L0
  go_wp2_with (first
    | (go_at_call 40; refine (leastNormal_s _).mono ?_; rintro e w3 ⟨rfl, b3⟩; replace K0 := K0.below b3 K0.lt; replace K1 := K1.below b3 K1.lt; replace pr := bel pr b3; clear b3; have e0 : w3.cell? ⟨w.heap.size, 0, none⟩ = some (.int .i64 24) := K0.at 0; have e1 : w3.cell? ⟨w.heap.size, 1, none⟩ = some (.int .i64 (-149)) := K0.at 1; have e2 : w3.cell? ⟨w.heap.size, 2, none⟩ = some (.int .i64 104) := K0.at 2; have c0 : w3.cell? ⟨w.heap.size + 1, 0, none⟩ = some (.int .i64 0) := K1.at 0; have c1 : w3.cell? ⟨w.heap.size + 1, 1, none⟩ = some (.bool false) := K1.at 1; have c2 : w3.cell? ⟨w.heap.size + 1, 2, none⟩ = some (.int .u64 0) := K1.at 2; have c3 : w3.cell? ⟨w.heap.size + 1, 3, none⟩ = some (.int .i64 0) := K1.at 3; have z0 := K1.free 0; have z1 := K1.free 1; have z2 := K1.free 2; have z3 := K1.free 3)
    | (go_at_call 39; refine (topField_s _).mono ?_; rintro e w3 ⟨rfl, b3⟩; replace K0 := K0.below b3 K0.lt; replace K1 := K1.below b3 K1.lt; replace pr := bel pr b3; clear b3; have e0 : w3.cell? ⟨w.heap.size, 0, none⟩ = some (.int .i64 24) := K0.at 0; have e1 : w3.cell? ⟨w.heap.size, 1, none⟩ = some (.int .i64 (-149)) := K0.at 1; have e2 : w3.cell? ⟨w.heap.size, 2, none⟩ = some (.int .i64 104) := K0.at 2; have c0 : w3.cell? ⟨w.heap.size + 1, 0, none⟩ = some (.int .i64 0) := K1.at 0; have c1 : w3.cell? ⟨w.heap.size + 1, 1, none⟩ = some (.bool false) := K1.at 1; have c2 : w3.cell? ⟨w.heap.size + 1, 2, none⟩ = some (.int .u64 0) := K1.at 2; have c3 : w3.cell? ⟨w.heap.size + 1, 3, none⟩ = some (.int .i64 0) := K1.at 3; have z0 := K1.free 0; have z1 := K1.free 1; have z2 := K1.free 2; have z3 := K1.free 3)
    | fail)
  obtain ⟨F0, F1, F2, F3, FB⟩ := put4 (.int .i64 4) (.bool false) (.int .u64 0) (.int .i64 0) c0 c1 c2 c3
  exact bodyPost_ret (v := prt 4 false 0 0) (by simp [results, Tryz.results21, go_sem, F0, F1, F2, F3]) rfl ⟨rfl, FB _ _ (by omega) pr⟩
set_option maxRecDepth 100000 in
set_option maxHeartbeats 1600000 in
theorem split_s_inf (n d f : Int) (g : Bool) (hg : (bits .and .u64 n 2147483648 != 0) = g) (hd : bits .and .u64 (n / 8388608) 255 = d) (hf : bits .and .u64 n 8388607 = f) (d1 : d = 255) (f1 : (f != 0) = false) (w : World) :
    Calls Tryz.prog 21 #[fmtS, .int .u64 n] w fun e w' => e = .returned (prt 3 g 0 0) ∧ Below w.heap.size w w' := by
  go_enter Tryz.func21, Tryz.ntmps21
  have K0 : Blk ((w.alloc (.cells #[.int .i64 24, .int .i64 (-149), .int .i64 104] 59)).alloc (.cells #[.int .i64 0, .bool false, .int .u64 0, .int .i64 0] 42)) w.heap.size #[.int .i64 24, .int .i64 (-149), .int .i64 104] 59 := (Blk.new w _ _).alloc _
  have K1 := Blk.new (w.alloc (.cells #[.int .i64 24, .int .i64 (-149), .int .i64 104] 59)) #[.int .i64 0, .bool false, .int .u64 0, .int .i64 0] 42
  have pr : Below w.heap.size w ((w.alloc (.cells #[.int .i64 24, .int .i64 (-149), .int .i64 104] 59)).alloc (.cells #[.int .i64 0, .bool false, .int .u64 0, .int .i64 0] 42)) := ((Below.refl _ _).alloc (Nat.le_refl _) _).alloc (by simp) _
  simp only [World.size_alloc] at K1
  have h1 : IntKind.i64.wrap 23 = 23 := by decide
  go_wp2_with (first
    | (go_at_call 38; refine (signBit_s _).mono ?_; rintro e w1 ⟨rfl, b1⟩; replace K0 := K0.below b1 K0.lt; replace K1 := K1.below b1 K1.lt; replace pr := bel pr b1; clear b1)
    | fail)
  have L0 := K0.lt
  have e0 : w1.cell? ⟨w.heap.size, 0, none⟩ = some (.int .i64 24) := K0.at 0
  have e1 : w1.cell? ⟨w.heap.size, 1, none⟩ = some (.int .i64 (-149)) := K0.at 1
  have e2 : w1.cell? ⟨w.heap.size, 2, none⟩ = some (.int .i64 104) := K0.at 2
  go_region_held3 (fun x => x.cell? ⟨w.heap.size, 0, none⟩ = some (.int .i64 24) ∧ x.cell? ⟨w.heap.size, 1, none⟩ = some (.int .i64 (-149)) ∧ x.cell? ⟨w.heap.size, 2, none⟩ = some (.int .i64 104)) (go_keep) (first
    | (go_at_call 39; refine (topField_s _).mono ?_; rintro e w2 ⟨rfl, b2⟩; have f0 := (b2.cell (p := ⟨w.heap.size, 0, none⟩) L0).trans e0; have f1 := (b2.cell (p := ⟨w.heap.size, 1, none⟩) L0).trans e1; have f2 := (b2.cell (p := ⟨w.heap.size, 2, none⟩) L0).trans e2)
    | fail)
  replace K0 := K0.below (below_undrew b2) K0.lt
  replace K1 := K1.below (below_undrew b2) K1.lt
  replace pr := bel_drew pr b2
  clear b2 e0 e1 e2 L0
  go_wp2_with (first
    | (go_at_call 40; refine (leastNormal_s _).mono ?_; rintro e w3 ⟨rfl, b3⟩; replace K0 := K0.below b3 K0.lt; replace K1 := K1.below b3 K1.lt; replace pr := bel pr b3; clear b3; have e0 : w3.cell? ⟨w.heap.size, 0, none⟩ = some (.int .i64 24) := K0.at 0; have e1 : w3.cell? ⟨w.heap.size, 1, none⟩ = some (.int .i64 (-149)) := K0.at 1; have e2 : w3.cell? ⟨w.heap.size, 2, none⟩ = some (.int .i64 104) := K0.at 2; have c0 : w3.cell? ⟨w.heap.size + 1, 0, none⟩ = some (.int .i64 0) := K1.at 0; have c1 : w3.cell? ⟨w.heap.size + 1, 1, none⟩ = some (.bool false) := K1.at 1; have c2 : w3.cell? ⟨w.heap.size + 1, 2, none⟩ = some (.int .u64 0) := K1.at 2; have c3 : w3.cell? ⟨w.heap.size + 1, 3, none⟩ = some (.int .i64 0) := K1.at 3; have z0 := K1.free 0; have z1 := K1.free 1; have z2 := K1.free 2; have z3 := K1.free 3)
    | (go_at_call 39; refine (topField_s _).mono ?_; rintro e w3 ⟨rfl, b3⟩; replace K0 := K0.below b3 K0.lt; replace K1 := K1.below b3 K1.lt; replace pr := bel pr b3; clear b3; have e0 : w3.cell? ⟨w.heap.size, 0, none⟩ = some (.int .i64 24) := K0.at 0; have e1 : w3.cell? ⟨w.heap.size, 1, none⟩ = some (.int .i64 (-149)) := K0.at 1; have e2 : w3.cell? ⟨w.heap.size, 2, none⟩ = some (.int .i64 104) := K0.at 2; have c0 : w3.cell? ⟨w.heap.size + 1, 0, none⟩ = some (.int .i64 0) := K1.at 0; have c1 : w3.cell? ⟨w.heap.size + 1, 1, none⟩ = some (.bool false) := K1.at 1; have c2 : w3.cell? ⟨w.heap.size + 1, 2, none⟩ = some (.int .u64 0) := K1.at 2; have c3 : w3.cell? ⟨w.heap.size + 1, 3, none⟩ = some (.int .i64 0) := K1.at 3; have z0 := K1.free 0; have z1 := K1.free 1; have z2 := K1.free 2; have z3 := K1.free 3)
    | fail)
  obtain ⟨F0, F1, F2, F3, FB⟩ := put4 (.int .i64 3) (.bool g) (.int .u64 0) (.int .i64 0) c0 c1 c2 c3
  exact bodyPost_ret (v := prt 3 g 0 0) (by simp [results, Tryz.results21, go_sem, F0, F1, F2, F3]) rfl ⟨rfl, FB _ _ (by omega) pr⟩
set_option maxRecDepth 100000 in
set_option maxHeartbeats 1600000 in
theorem split_s_small (n d f : Int) (g : Bool) (hg : (bits .and .u64 n 2147483648 != 0) = g) (hd : bits .and .u64 (n / 8388608) 255 = d) (hf : bits .and .u64 n 8388607 = f) (d1 : d = 0) (f1 : (f != 0) = true) (w : World) :
    Calls Tryz.prog 21 #[fmtS, .int .u64 n] w fun e w' => e = .returned (prt 1 g f (-149)) ∧ Below w.heap.size w w' := by
  go_enter Tryz.func21, Tryz.ntmps21
  have K0 : Blk ((w.alloc (.cells #[.int .i64 24, .int .i64 (-149), .int .i64 104] 59)).alloc (.cells #[.int .i64 0, .bool false, .int .u64 0, .int .i64 0] 42)) w.heap.size #[.int .i64 24, .int .i64 (-149), .int .i64 104] 59 := (Blk.new w _ _).alloc _
  have K1 := Blk.new (w.alloc (.cells #[.int .i64 24, .int .i64 (-149), .int .i64 104] 59)) #[.int .i64 0, .bool false, .int .u64 0, .int .i64 0] 42
  have pr : Below w.heap.size w ((w.alloc (.cells #[.int .i64 24, .int .i64 (-149), .int .i64 104] 59)).alloc (.cells #[.int .i64 0, .bool false, .int .u64 0, .int .i64 0] 42)) := ((Below.refl _ _).alloc (Nat.le_refl _) _).alloc (by simp) _
  simp only [World.size_alloc] at K1
  have h1 : IntKind.i64.wrap 23 = 23 := by decide
  go_wp2_with (first
    | (go_at_call 38; refine (signBit_s _).mono ?_; rintro e w1 ⟨rfl, b1⟩; replace K0 := K0.below b1 K0.lt; replace K1 := K1.below b1 K1.lt; replace pr := bel pr b1; clear b1)
    | fail)
  have L0 := K0.lt
  have e0 : w1.cell? ⟨w.heap.size, 0, none⟩ = some (.int .i64 24) := K0.at 0
  have e1 : w1.cell? ⟨w.heap.size, 1, none⟩ = some (.int .i64 (-149)) := K0.at 1
  have e2 : w1.cell? ⟨w.heap.size, 2, none⟩ = some (.int .i64 104) := K0.at 2
  go_region_held3 (fun x => x.cell? ⟨w.heap.size, 0, none⟩ = some (.int .i64 24) ∧ x.cell? ⟨w.heap.size, 1, none⟩ = some (.int .i64 (-149)) ∧ x.cell? ⟨w.heap.size, 2, none⟩ = some (.int .i64 104)) (go_keep) (first
    | (go_at_call 39; refine (topField_s _).mono ?_; rintro e w2 ⟨rfl, b2⟩; have f0 := (b2.cell (p := ⟨w.heap.size, 0, none⟩) L0).trans e0; have f1 := (b2.cell (p := ⟨w.heap.size, 1, none⟩) L0).trans e1; have f2 := (b2.cell (p := ⟨w.heap.size, 2, none⟩) L0).trans e2)
    | fail)
  replace K0 := K0.below (below_undrew b2) K0.lt
  replace K1 := K1.below (below_undrew b2) K1.lt
  replace pr := bel_drew pr b2
  clear b2 e0 e1 e2 L0
  go_wp2_with (first
    | (go_at_call 40; refine (leastNormal_s _).mono ?_; rintro e w3 ⟨rfl, b3⟩; replace K0 := K0.below b3 K0.lt; replace K1 := K1.below b3 K1.lt; replace pr := bel pr b3; clear b3; have e0 : w3.cell? ⟨w.heap.size, 0, none⟩ = some (.int .i64 24) := K0.at 0; have e1 : w3.cell? ⟨w.heap.size, 1, none⟩ = some (.int .i64 (-149)) := K0.at 1; have e2 : w3.cell? ⟨w.heap.size, 2, none⟩ = some (.int .i64 104) := K0.at 2; have c0 : w3.cell? ⟨w.heap.size + 1, 0, none⟩ = some (.int .i64 0) := K1.at 0; have c1 : w3.cell? ⟨w.heap.size + 1, 1, none⟩ = some (.bool false) := K1.at 1; have c2 : w3.cell? ⟨w.heap.size + 1, 2, none⟩ = some (.int .u64 0) := K1.at 2; have c3 : w3.cell? ⟨w.heap.size + 1, 3, none⟩ = some (.int .i64 0) := K1.at 3; have z0 := K1.free 0; have z1 := K1.free 1; have z2 := K1.free 2; have z3 := K1.free 3)
    | (go_at_call 39; refine (topField_s _).mono ?_; rintro e w3 ⟨rfl, b3⟩; replace K0 := K0.below b3 K0.lt; replace K1 := K1.below b3 K1.lt; replace pr := bel pr b3; clear b3; have e0 : w3.cell? ⟨w.heap.size, 0, none⟩ = some (.int .i64 24) := K0.at 0; have e1 : w3.cell? ⟨w.heap.size, 1, none⟩ = some (.int .i64 (-149)) := K0.at 1; have e2 : w3.cell? ⟨w.heap.size, 2, none⟩ = some (.int .i64 104) := K0.at 2; have c0 : w3.cell? ⟨w.heap.size + 1, 0, none⟩ = some (.int .i64 0) := K1.at 0; have c1 : w3.cell? ⟨w.heap.size + 1, 1, none⟩ = some (.bool false) := K1.at 1; have c2 : w3.cell? ⟨w.heap.size + 1, 2, none⟩ = some (.int .u64 0) := K1.at 2; have c3 : w3.cell? ⟨w.heap.size + 1, 3, none⟩ = some (.int .i64 0) := K1.at 3; have z0 := K1.free 0; have z1 := K1.free 1; have z2 := K1.free 2; have z3 := K1.free 3)
    | fail)
  obtain ⟨F0, F1, F2, F3, FB⟩ := put4 (.int .i64 1) (.bool g) (.int .u64 f) (.int .i64 (-149)) c0 c1 c2 c3
  exact bodyPost_ret (v := prt 1 g f (-149)) (by simp [results, Tryz.results21, go_sem, F0, F1, F2, F3]) rfl ⟨rfl, FB _ _ (by omega) pr⟩
set_option maxRecDepth 100000 in
set_option maxHeartbeats 1600000 in
theorem split_s_nought (n d f : Int) (g : Bool) (hg : (bits .and .u64 n 2147483648 != 0) = g) (hd : bits .and .u64 (n / 8388608) 255 = d) (hf : bits .and .u64 n 8388607 = f) (d1 : d = 0) (f1 : (f != 0) = false) (w : World) :
    Calls Tryz.prog 21 #[fmtS, .int .u64 n] w fun e w' => e = .returned (prt 0 g 0 0) ∧ Below w.heap.size w w' := by
  go_enter Tryz.func21, Tryz.ntmps21
  have K0 : Blk ((w.alloc (.cells #[.int .i64 24, .int .i64 (-149), .int .i64 104] 59)).alloc (.cells #[.int .i64 0, .bool false, .int .u64 0, .int .i64 0] 42)) w.heap.size #[.int .i64 24, .int .i64 (-149), .int .i64 104] 59 := (Blk.new w _ _).alloc _
  have K1 := Blk.new (w.alloc (.cells #[.int .i64 24, .int .i64 (-149), .int .i64 104] 59)) #[.int .i64 0, .bool false, .int .u64 0, .int .i64 0] 42
  have pr : Below w.heap.size w ((w.alloc (.cells #[.int .i64 24, .int .i64 (-149), .int .i64 104] 59)).alloc (.cells #[.int .i64 0, .bool false, .int .u64 0, .int .i64 0] 42)) := ((Below.refl _ _).alloc (Nat.le_refl _) _).alloc (by simp) _
  simp only [World.size_alloc] at K1
  have h1 : IntKind.i64.wrap 23 = 23 := by decide
  go_wp2_with (first
    | (go_at_call 38; refine (signBit_s _).mono ?_; rintro e w1 ⟨rfl, b1⟩; replace K0 := K0.below b1 K0.lt; replace K1 := K1.below b1 K1.lt; replace pr := bel pr b1; clear b1)
    | fail)
  have L0 := K0.lt
  have e0 : w1.cell? ⟨w.heap.size, 0, none⟩ = some (.int .i64 24) := K0.at 0
  have e1 : w1.cell? ⟨w.heap.size, 1, none⟩ = some (.int .i64 (-149)) := K0.at 1
  have e2 : w1.cell? ⟨w.heap.size, 2, none⟩ = some (.int .i64 104) := K0.at 2
  go_region_held3 (fun x => x.cell? ⟨w.heap.size, 0, none⟩ = some (.int .i64 24) ∧ x.cell? ⟨w.heap.size, 1, none⟩ = some (.int .i64 (-149)) ∧ x.cell? ⟨w.heap.size, 2, none⟩ = some (.int .i64 104)) (go_keep) (first
    | (go_at_call 39; refine (topField_s _).mono ?_; rintro e w2 ⟨rfl, b2⟩; have f0 := (b2.cell (p := ⟨w.heap.size, 0, none⟩) L0).trans e0; have f1 := (b2.cell (p := ⟨w.heap.size, 1, none⟩) L0).trans e1; have f2 := (b2.cell (p := ⟨w.heap.size, 2, none⟩) L0).trans e2)
    | fail)
  replace K0 := K0.below (below_undrew b2) K0.lt
  replace K1 := K1.below (below_undrew b2) K1.lt
  replace pr := bel_drew pr b2
  clear b2 e0 e1 e2 L0
  go_wp2_with (first
    | (go_at_call 40; refine (leastNormal_s _).mono ?_; rintro e w3 ⟨rfl, b3⟩; replace K0 := K0.below b3 K0.lt; replace K1 := K1.below b3 K1.lt; replace pr := bel pr b3; clear b3; have e0 : w3.cell? ⟨w.heap.size, 0, none⟩ = some (.int .i64 24) := K0.at 0; have e1 : w3.cell? ⟨w.heap.size, 1, none⟩ = some (.int .i64 (-149)) := K0.at 1; have e2 : w3.cell? ⟨w.heap.size, 2, none⟩ = some (.int .i64 104) := K0.at 2; have c0 : w3.cell? ⟨w.heap.size + 1, 0, none⟩ = some (.int .i64 0) := K1.at 0; have c1 : w3.cell? ⟨w.heap.size + 1, 1, none⟩ = some (.bool false) := K1.at 1; have c2 : w3.cell? ⟨w.heap.size + 1, 2, none⟩ = some (.int .u64 0) := K1.at 2; have c3 : w3.cell? ⟨w.heap.size + 1, 3, none⟩ = some (.int .i64 0) := K1.at 3; have z0 := K1.free 0; have z1 := K1.free 1; have z2 := K1.free 2; have z3 := K1.free 3)
    | (go_at_call 39; refine (topField_s _).mono ?_; rintro e w3 ⟨rfl, b3⟩; replace K0 := K0.below b3 K0.lt; replace K1 := K1.below b3 K1.lt; replace pr := bel pr b3; clear b3; have e0 : w3.cell? ⟨w.heap.size, 0, none⟩ = some (.int .i64 24) := K0.at 0; have e1 : w3.cell? ⟨w.heap.size, 1, none⟩ = some (.int .i64 (-149)) := K0.at 1; have e2 : w3.cell? ⟨w.heap.size, 2, none⟩ = some (.int .i64 104) := K0.at 2; have c0 : w3.cell? ⟨w.heap.size + 1, 0, none⟩ = some (.int .i64 0) := K1.at 0; have c1 : w3.cell? ⟨w.heap.size + 1, 1, none⟩ = some (.bool false) := K1.at 1; have c2 : w3.cell? ⟨w.heap.size + 1, 2, none⟩ = some (.int .u64 0) := K1.at 2; have c3 : w3.cell? ⟨w.heap.size + 1, 3, none⟩ = some (.int .i64 0) := K1.at 3; have z0 := K1.free 0; have z1 := K1.free 1; have z2 := K1.free 2; have z3 := K1.free 3)
    | fail)
  obtain ⟨F0, F1, F2, F3, FB⟩ := put4 (.int .i64 0) (.bool g) (.int .u64 0) (.int .i64 0) c0 c1 c2 c3
  exact bodyPost_ret (v := prt 0 g 0 0) (by simp [results, Tryz.results21, go_sem, F0, F1, F2, F3]) rfl ⟨rfl, FB _ _ (by omega) pr⟩
set_option maxRecDepth 100000 in
set_option maxHeartbeats 1600000 in
theorem split_s_normal (n d f s : Int) (g : Bool) (hg : (bits .and .u64 n 2147483648 != 0) = g) (hd : bits .and .u64 (n / 8388608) 255 = d) (hf : bits .and .u64 n 8388607 = f) (d1 : (d != 0) = true) (d2 : (d == 255) = false) (hs : bits .or .u64 f 8388608 = s) (hx1 : IntKind.i64.wrap d = d) (hx2 : IntKind.i64.wrap (d - 1) = d - 1) (hx3 : IntKind.i64.wrap (d - 1 + -149) = d - 1 + -149) (w : World) :
    Calls Tryz.prog 21 #[fmtS, .int .u64 n] w fun e w' => e = .returned (prt 2 g s (d - 1 + -149)) ∧ Below w.heap.size w w' := by
  go_enter Tryz.func21, Tryz.ntmps21
  have K0 : Blk ((w.alloc (.cells #[.int .i64 24, .int .i64 (-149), .int .i64 104] 59)).alloc (.cells #[.int .i64 0, .bool false, .int .u64 0, .int .i64 0] 42)) w.heap.size #[.int .i64 24, .int .i64 (-149), .int .i64 104] 59 := (Blk.new w _ _).alloc _
  have K1 := Blk.new (w.alloc (.cells #[.int .i64 24, .int .i64 (-149), .int .i64 104] 59)) #[.int .i64 0, .bool false, .int .u64 0, .int .i64 0] 42
  have pr : Below w.heap.size w ((w.alloc (.cells #[.int .i64 24, .int .i64 (-149), .int .i64 104] 59)).alloc (.cells #[.int .i64 0, .bool false, .int .u64 0, .int .i64 0] 42)) := ((Below.refl _ _).alloc (Nat.le_refl _) _).alloc (by simp) _
  simp only [World.size_alloc] at K1
  have h1 : IntKind.i64.wrap 23 = 23 := by decide
  go_wp2_with (first
    | (go_at_call 38; refine (signBit_s _).mono ?_; rintro e w1 ⟨rfl, b1⟩; replace K0 := K0.below b1 K0.lt; replace K1 := K1.below b1 K1.lt; replace pr := bel pr b1; clear b1)
    | fail)
  have L0 := K0.lt
  have e0 : w1.cell? ⟨w.heap.size, 0, none⟩ = some (.int .i64 24) := K0.at 0
  have e1 : w1.cell? ⟨w.heap.size, 1, none⟩ = some (.int .i64 (-149)) := K0.at 1
  have e2 : w1.cell? ⟨w.heap.size, 2, none⟩ = some (.int .i64 104) := K0.at 2
  go_region_held3 (fun x => x.cell? ⟨w.heap.size, 0, none⟩ = some (.int .i64 24) ∧ x.cell? ⟨w.heap.size, 1, none⟩ = some (.int .i64 (-149)) ∧ x.cell? ⟨w.heap.size, 2, none⟩ = some (.int .i64 104)) (go_keep) (first
    | (go_at_call 39; refine (topField_s _).mono ?_; rintro e w2 ⟨rfl, b2⟩; have f0 := (b2.cell (p := ⟨w.heap.size, 0, none⟩) L0).trans e0; have f1 := (b2.cell (p := ⟨w.heap.size, 1, none⟩) L0).trans e1; have f2 := (b2.cell (p := ⟨w.heap.size, 2, none⟩) L0).trans e2)
    | fail)
  replace K0 := K0.below (below_undrew b2) K0.lt
  replace K1 := K1.below (below_undrew b2) K1.lt
  replace pr := bel_drew pr b2
  clear b2 e0 e1 e2 L0
  go_wp2_with (first
    | (go_at_call 40; refine (leastNormal_s _).mono ?_; rintro e w3 ⟨rfl, b3⟩; replace K0 := K0.below b3 K0.lt; replace K1 := K1.below b3 K1.lt; replace pr := bel pr b3; clear b3; have e0 : w3.cell? ⟨w.heap.size, 0, none⟩ = some (.int .i64 24) := K0.at 0; have e1 : w3.cell? ⟨w.heap.size, 1, none⟩ = some (.int .i64 (-149)) := K0.at 1; have e2 : w3.cell? ⟨w.heap.size, 2, none⟩ = some (.int .i64 104) := K0.at 2; have c0 : w3.cell? ⟨w.heap.size + 1, 0, none⟩ = some (.int .i64 0) := K1.at 0; have c1 : w3.cell? ⟨w.heap.size + 1, 1, none⟩ = some (.bool false) := K1.at 1; have c2 : w3.cell? ⟨w.heap.size + 1, 2, none⟩ = some (.int .u64 0) := K1.at 2; have c3 : w3.cell? ⟨w.heap.size + 1, 3, none⟩ = some (.int .i64 0) := K1.at 3; have z0 := K1.free 0; have z1 := K1.free 1; have z2 := K1.free 2; have z3 := K1.free 3)
    | (go_at_call 39; refine (topField_s _).mono ?_; rintro e w3 ⟨rfl, b3⟩; replace K0 := K0.below b3 K0.lt; replace K1 := K1.below b3 K1.lt; replace pr := bel pr b3; clear b3; have e0 : w3.cell? ⟨w.heap.size, 0, none⟩ = some (.int .i64 24) := K0.at 0; have e1 : w3.cell? ⟨w.heap.size, 1, none⟩ = some (.int .i64 (-149)) := K0.at 1; have e2 : w3.cell? ⟨w.heap.size, 2, none⟩ = some (.int .i64 104) := K0.at 2; have c0 : w3.cell? ⟨w.heap.size + 1, 0, none⟩ = some (.int .i64 0) := K1.at 0; have c1 : w3.cell? ⟨w.heap.size + 1, 1, none⟩ = some (.bool false) := K1.at 1; have c2 : w3.cell? ⟨w.heap.size + 1, 2, none⟩ = some (.int .u64 0) := K1.at 2; have c3 : w3.cell? ⟨w.heap.size + 1, 3, none⟩ = some (.int .i64 0) := K1.at 3; have z0 := K1.free 0; have z1 := K1.free 1; have z2 := K1.free 2; have z3 := K1.free 3)
    | fail)
  have M0 := K0
  have M1 := K1
  go_region_held3 (fun x => x.cell? ⟨w.heap.size, 0, none⟩ = some (.int .i64 24) ∧ x.cell? ⟨w.heap.size, 1, none⟩ = some (.int .i64 (-149)) ∧ x.cell? ⟨w.heap.size, 2, none⟩ = some (.int .i64 104)) (go_keep) (first
    | (go_at_call 40; refine (leastNormal_s _).mono ?_; rintro e w4 ⟨rfl, b4⟩; replace K0 := M0.below (below_undrew b4) M0.lt; replace K1 := M1.below (below_undrew b4) M1.lt; have e0 : w4.cell? ⟨w.heap.size, 0, none⟩ = some (.int .i64 24) := K0.at 0; have e1 : w4.cell? ⟨w.heap.size, 1, none⟩ = some (.int .i64 (-149)) := K0.at 1; have e2 : w4.cell? ⟨w.heap.size, 2, none⟩ = some (.int .i64 104) := K0.at 2; have c0 : w4.cell? ⟨w.heap.size + 1, 0, none⟩ = some (.int .i64 0) := K1.at 0; have c1 : w4.cell? ⟨w.heap.size + 1, 1, none⟩ = some (.bool false) := K1.at 1; have c2 : w4.cell? ⟨w.heap.size + 1, 2, none⟩ = some (.int .u64 0) := K1.at 2; have c3 : w4.cell? ⟨w.heap.size + 1, 3, none⟩ = some (.int .i64 0) := K1.at 3; have z0 := K1.free 0; have z1 := K1.free 1; have z2 := K1.free 2; have z3 := K1.free 3)
    | fail)
  replace pr := bel_drew pr b4
  obtain ⟨F0, F1, F2, F3, FB⟩ := put4 (.int .i64 2) (.bool g) (.int .u64 s) (.int .i64 (d - 1 + -149)) c0 c1 c2 c3
  go_wp2
  exact bodyPost_ret (v := prt 2 g s (d - 1 + -149)) (by simp [results, Tryz.results21, go_sem, F0, F1, F2, F3]) rfl ⟨rfl, FB _ _ (by omega) pr⟩
end Go.Proofs.YtiobnojcmeeikaaGreatDoor
