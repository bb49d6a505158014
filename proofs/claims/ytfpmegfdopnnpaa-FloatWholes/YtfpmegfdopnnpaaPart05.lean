import Derived.Test.YtfpmegfdopnnpaaPart04

namespace Go.Proofs.Ytfpmegfdopnnpaa
open Go.RowKit Tn

/-- Parts as a value. -/
abbrev prt (k : Int) (g : Bool) (m e : Int) : Value := .agg #[.int .i64 k, .bool g, .int .u64 m, .int .i64 e]
/-- Four cells are written. -/
theorem put4 {w1 : World} {b : Nat} {u0 u1 u2 u3 : Value} (x y z v : Value) (g0 : w1.cell? ⟨b, 0, none⟩ = some u0) (g1 : w1.cell? ⟨b, 1, none⟩ = some u1) (g2 : w1.cell? ⟨b, 2, none⟩ = some u2) (g3 : w1.cell? ⟨b, 3, none⟩ = some u3) :
    let W := (((w1.setCell ⟨b, 0, none⟩ x).setCell ⟨b, 1, none⟩ y).setCell ⟨b, 2, none⟩ z).setCell ⟨b, 3, none⟩ v
    W.cell? ⟨b, 0, none⟩ = some x ∧ W.cell? ⟨b, 1, none⟩ = some y ∧ W.cell? ⟨b, 2, none⟩ = some z ∧ W.cell? ⟨b, 3, none⟩ = some v ∧ ∀ (B : Nat) (w : World), B ≤ b → Below B w w1 → Below B w W := by
  have h1 : (w1.setCell ⟨b, 0, none⟩ x).cell? ⟨b, 1, none⟩ = some u1 := (World.cell?_setCell_other _ _ _ _ (by simp)).trans g1
  have h2 : ((w1.setCell ⟨b, 0, none⟩ x).setCell ⟨b, 1, none⟩ y).cell? ⟨b, 2, none⟩ = some u2 := (World.cell?_setCell_other _ _ _ _ (by simp)).trans ((World.cell?_setCell_other _ _ _ _ (by simp)).trans g2)
  have h3 : (((w1.setCell ⟨b, 0, none⟩ x).setCell ⟨b, 1, none⟩ y).setCell ⟨b, 2, none⟩ z).cell? ⟨b, 3, none⟩ = some u3 := (World.cell?_setCell_other _ _ _ _ (by simp)).trans ((World.cell?_setCell_other _ _ _ _ (by simp)).trans ((World.cell?_setCell_other _ _ _ _ (by simp)).trans g3))
  refine ⟨?_, ?_, ?_, World.cell?_setCell_same _ _ _ h3, fun B w hB h => (((h.setCell (p := ⟨b, 0, none⟩) hB x).setCell (p := ⟨b, 1, none⟩) hB y).setCell (p := ⟨b, 2, none⟩) hB z).setCell (p := ⟨b, 3, none⟩) hB v⟩
  · rw [World.cell?_setCell_other _ _ _ _ (by simp), World.cell?_setCell_other _ _ _ _ (by simp), World.cell?_setCell_other _ _ _ _ (by simp), World.cell?_setCell_same _ _ _ g0]
  · rw [World.cell?_setCell_other _ _ _ _ (by simp), World.cell?_setCell_other _ _ _ _ (by simp), World.cell?_setCell_same _ _ _ h1]
  · rw [World.cell?_setCell_other _ _ _ _ (by simp), World.cell?_setCell_same _ _ _ h2]
set_option maxRecDepth 100000 in
set_option maxHeartbeats 1600000 in
theorem split_w_none (n d f : Int) (g : Bool) (hg : (bits .and .u64 n 9223372036854775808 != 0) = g) (hd : bits .and .u64 (n / 4503599627370496) 2047 = d) (hf : bits .and .u64 n 4503599627370495 = f) (d1 : d = 2047) (f1 : (f != 0) = true) (w : World) :
    Calls Try.prog 41 #[fmtW, .int .u64 n] w fun e w' => e = .returned (prt 4 false 0 0) ∧ Below w.heap.size w w' := by
  go_enter Try.func41, Try.ntmps41
  have K0 : Blk ((w.alloc (.cells #[.int .i64 53, .int .i64 (-1074), .int .i64 971] 72)).alloc (.cells #[.int .i64 0, .bool false, .int .u64 0, .int .i64 0] 25)) w.heap.size #[.int .i64 53, .int .i64 (-1074), .int .i64 971] 72 := (Blk.new w _ _).alloc _
  have K1 := Blk.new (w.alloc (.cells #[.int .i64 53, .int .i64 (-1074), .int .i64 971] 72)) #[.int .i64 0, .bool false, .int .u64 0, .int .i64 0] 25
  have pr : Below w.heap.size w ((w.alloc (.cells #[.int .i64 53, .int .i64 (-1074), .int .i64 971] 72)).alloc (.cells #[.int .i64 0, .bool false, .int .u64 0, .int .i64 0] 25)) := ((Below.refl _ _).alloc (Nat.le_refl _) _).alloc (by simp) _
  simp only [World.size_alloc] at K1
  have h1 : IntKind.i64.wrap 52 = 52 := by decide
  go_wp2_with (first
    | (go_at_call 75; refine (signBit_w _).mono ?_; rintro e w1 ⟨rfl, b1⟩; replace K0 := K0.below b1 K0.lt; replace K1 := K1.below b1 K1.lt; replace pr := bel pr b1; clear b1)
    | fail)
  have L0 := K0.lt
  have e0 : w1.cell? ⟨w.heap.size, 0, none⟩ = some (.int .i64 53) := K0.at 0
  have e1 : w1.cell? ⟨w.heap.size, 1, none⟩ = some (.int .i64 (-1074)) := K0.at 1
  have e2 : w1.cell? ⟨w.heap.size, 2, none⟩ = some (.int .i64 971) := K0.at 2
  go_region_held3 (fun x => x.cell? ⟨w.heap.size, 0, none⟩ = some (.int .i64 53) ∧ x.cell? ⟨w.heap.size, 1, none⟩ = some (.int .i64 (-1074)) ∧ x.cell? ⟨w.heap.size, 2, none⟩ = some (.int .i64 971)) (go_keep) (first
    | (go_at_call 76; refine (topField_w _).mono ?_; rintro e w2 ⟨rfl, b2⟩; have f0 := (b2.cell (p := ⟨w.heap.size, 0, none⟩) L0).trans e0; have f1 := (b2.cell (p := ⟨w.heap.size, 1, none⟩) L0).trans e1; have f2 := (b2.cell (p := ⟨w.heap.size, 2, none⟩) L0).trans e2)
    | fail)
  replace K0 := K0.below (below_undrew b2) K0.lt
  replace K1 := K1.below (below_undrew b2) K1.lt
  replace pr := bel_drew pr b2
  clear b2 e0 e1 e2 L0
  go_wp2_with (first
    | (go_at_call 77; refine (leastNormal_w _).mono ?_; rintro e w3 ⟨rfl, b3⟩; replace K0 := K0.below b3 K0.lt; replace K1 := K1.below b3 K1.lt; replace pr := bel pr b3; clear b3; have e0 : w3.cell? ⟨w.heap.size, 0, none⟩ = some (.int .i64 53) := K0.at 0; have e1 : w3.cell? ⟨w.heap.size, 1, none⟩ = some (.int .i64 (-1074)) := K0.at 1; have e2 : w3.cell? ⟨w.heap.size, 2, none⟩ = some (.int .i64 971) := K0.at 2; have c0 : w3.cell? ⟨w.heap.size + 1, 0, none⟩ = some (.int .i64 0) := K1.at 0; have c1 : w3.cell? ⟨w.heap.size + 1, 1, none⟩ = some (.bool false) := K1.at 1; have c2 : w3.cell? ⟨w.heap.size + 1, 2, none⟩ = some (.int .u64 0) := K1.at 2; have c3 : w3.cell? ⟨w.heap.size + 1, 3, none⟩ = some (.int .i64 0) := K1.at 3; have z0 := K1.free 0; have z1 := K1.free 1; have z2 := K1.free 2; have z3 := K1.free 3)
    | (go_at_call 76; refine (topField_w _).mono ?_; rintro e w3 ⟨rfl, b3⟩; replace K0 := K0.below b3 K0.lt; replace K1 := K1.below b3 K1.lt; replace pr := bel pr b3; clear b3; have e0 : w3.cell? ⟨w.heap.size, 0, none⟩ = some (.int .i64 53) := K0.at 0; have e1 : w3.cell? ⟨w.heap.size, 1, none⟩ = some (.int .i64 (-1074)) := K0.at 1; have e2 : w3.cell? ⟨w.heap.size, 2, none⟩ = some (.int .i64 971) := K0.at 2; have c0 : w3.cell? ⟨w.heap.size + 1, 0, none⟩ = some (.int .i64 0) := K1.at 0; have c1 : w3.cell? ⟨w.heap.size + 1, 1, none⟩ = some (.bool false) := K1.at 1; have c2 : w3.cell? ⟨w.heap.size + 1, 2, none⟩ = some (.int .u64 0) := K1.at 2; have c3 : w3.cell? ⟨w.heap.size + 1, 3, none⟩ = some (.int .i64 0) := K1.at 3; have z0 := K1.free 0; have z1 := K1.free 1; have z2 := K1.free 2; have z3 := K1.free 3)
    | fail)
  obtain ⟨F0, F1, F2, F3, FB⟩ := put4 (.int .i64 4) (.bool false) (.int .u64 0) (.int .i64 0) c0 c1 c2 c3
  exact bodyPost_ret (v := prt 4 false 0 0) (by simp [results, Try.results41, go_sem, F0, F1, F2, F3]) rfl ⟨rfl, FB _ _ (by omega) pr⟩
set_option maxRecDepth 100000 in
set_option maxHeartbeats 1600000 in
theorem split_w_inf (n d f : Int) (g : Bool) (hg : (bits .and .u64 n 9223372036854775808 != 0) = g) (hd : bits .and .u64 (n / 4503599627370496) 2047 = d) (hf : bits .and .u64 n 4503599627370495 = f) (d1 : d = 2047) (f1 : (f != 0) = false) (w : World) :
    Calls Try.prog 41 #[fmtW, .int .u64 n] w fun e w' => e = .returned (prt 3 g 0 0) ∧ Below w.heap.size w w' := by
  go_enter Try.func41, Try.ntmps41
  have K0 : Blk ((w.alloc (.cells #[.int .i64 53, .int .i64 (-1074), .int .i64 971] 72)).alloc (.cells #[.int .i64 0, .bool false, .int .u64 0, .int .i64 0] 25)) w.heap.size #[.int .i64 53, .int .i64 (-1074), .int .i64 971] 72 := (Blk.new w _ _).alloc _
  have K1 := Blk.new (w.alloc (.cells #[.int .i64 53, .int .i64 (-1074), .int .i64 971] 72)) #[.int .i64 0, .bool false, .int .u64 0, .int .i64 0] 25
  have pr : Below w.heap.size w ((w.alloc (.cells #[.int .i64 53, .int .i64 (-1074), .int .i64 971] 72)).alloc (.cells #[.int .i64 0, .bool false, .int .u64 0, .int .i64 0] 25)) := ((Below.refl _ _).alloc (Nat.le_refl _) _).alloc (by simp) _
  simp only [World.size_alloc] at K1
  have h1 : IntKind.i64.wrap 52 = 52 := by decide
  go_wp2_with (first
    | (go_at_call 75; refine (signBit_w _).mono ?_; rintro e w1 ⟨rfl, b1⟩; replace K0 := K0.below b1 K0.lt; replace K1 := K1.below b1 K1.lt; replace pr := bel pr b1; clear b1)
    | fail)
  have L0 := K0.lt
  have e0 : w1.cell? ⟨w.heap.size, 0, none⟩ = some (.int .i64 53) := K0.at 0
  have e1 : w1.cell? ⟨w.heap.size, 1, none⟩ = some (.int .i64 (-1074)) := K0.at 1
  have e2 : w1.cell? ⟨w.heap.size, 2, none⟩ = some (.int .i64 971) := K0.at 2
  go_region_held3 (fun x => x.cell? ⟨w.heap.size, 0, none⟩ = some (.int .i64 53) ∧ x.cell? ⟨w.heap.size, 1, none⟩ = some (.int .i64 (-1074)) ∧ x.cell? ⟨w.heap.size, 2, none⟩ = some (.int .i64 971)) (go_keep) (first
    | (go_at_call 76; refine (topField_w _).mono ?_; rintro e w2 ⟨rfl, b2⟩; have f0 := (b2.cell (p := ⟨w.heap.size, 0, none⟩) L0).trans e0; have f1 := (b2.cell (p := ⟨w.heap.size, 1, none⟩) L0).trans e1; have f2 := (b2.cell (p := ⟨w.heap.size, 2, none⟩) L0).trans e2)
    | fail)
  replace K0 := K0.below (below_undrew b2) K0.lt
  replace K1 := K1.below (below_undrew b2) K1.lt
  replace pr := bel_drew pr b2
  clear b2 e0 e1 e2 L0
  go_wp2_with (first
    | (go_at_call 77; refine (leastNormal_w _).mono ?_; rintro e w3 ⟨rfl, b3⟩; replace K0 := K0.below b3 K0.lt; replace K1 := K1.below b3 K1.lt; replace pr := bel pr b3; clear b3; have e0 : w3.cell? ⟨w.heap.size, 0, none⟩ = some (.int .i64 53) := K0.at 0; have e1 : w3.cell? ⟨w.heap.size, 1, none⟩ = some (.int .i64 (-1074)) := K0.at 1; have e2 : w3.cell? ⟨w.heap.size, 2, none⟩ = some (.int .i64 971) := K0.at 2; have c0 : w3.cell? ⟨w.heap.size + 1, 0, none⟩ = some (.int .i64 0) := K1.at 0; have c1 : w3.cell? ⟨w.heap.size + 1, 1, none⟩ = some (.bool false) := K1.at 1; have c2 : w3.cell? ⟨w.heap.size + 1, 2, none⟩ = some (.int .u64 0) := K1.at 2; have c3 : w3.cell? ⟨w.heap.size + 1, 3, none⟩ = some (.int .i64 0) := K1.at 3; have z0 := K1.free 0; have z1 := K1.free 1; have z2 := K1.free 2; have z3 := K1.free 3)
    | (go_at_call 76; refine (topField_w _).mono ?_; rintro e w3 ⟨rfl, b3⟩; replace K0 := K0.below b3 K0.lt; replace K1 := K1.below b3 K1.lt; replace pr := bel pr b3; clear b3; have e0 : w3.cell? ⟨w.heap.size, 0, none⟩ = some (.int .i64 53) := K0.at 0; have e1 : w3.cell? ⟨w.heap.size, 1, none⟩ = some (.int .i64 (-1074)) := K0.at 1; have e2 : w3.cell? ⟨w.heap.size, 2, none⟩ = some (.int .i64 971) := K0.at 2; have c0 : w3.cell? ⟨w.heap.size + 1, 0, none⟩ = some (.int .i64 0) := K1.at 0; have c1 : w3.cell? ⟨w.heap.size + 1, 1, none⟩ = some (.bool false) := K1.at 1; have c2 : w3.cell? ⟨w.heap.size + 1, 2, none⟩ = some (.int .u64 0) := K1.at 2; have c3 : w3.cell? ⟨w.heap.size + 1, 3, none⟩ = some (.int .i64 0) := K1.at 3; have z0 := K1.free 0; have z1 := K1.free 1; have z2 := K1.free 2; have z3 := K1.free 3)
    | fail)
  obtain ⟨F0, F1, F2, F3, FB⟩ := put4 (.int .i64 3) (.bool g) (.int .u64 0) (.int .i64 0) c0 c1 c2 c3
  exact bodyPost_ret (v := prt 3 g 0 0) (by simp [results, Try.results41, go_sem, F0, F1, F2, F3]) rfl ⟨rfl, FB _ _ (by omega) pr⟩
set_option maxRecDepth 100000 in
set_option maxHeartbeats 1600000 in
theorem split_w_small (n d f : Int) (g : Bool) (hg : (bits .and .u64 n 9223372036854775808 != 0) = g) (hd : bits .and .u64 (n / 4503599627370496) 2047 = d) (hf : bits .and .u64 n 4503599627370495 = f) (d1 : d = 0) (f1 : (f != 0) = true) (w : World) :
    Calls Try.prog 41 #[fmtW, .int .u64 n] w fun e w' => e = .returned (prt 1 g f (-1074)) ∧ Below w.heap.size w w' := by
  go_enter Try.func41, Try.ntmps41
  have K0 : Blk ((w.alloc (.cells #[.int .i64 53, .int .i64 (-1074), .int .i64 971] 72)).alloc (.cells #[.int .i64 0, .bool false, .int .u64 0, .int .i64 0] 25)) w.heap.size #[.int .i64 53, .int .i64 (-1074), .int .i64 971] 72 := (Blk.new w _ _).alloc _
  have K1 := Blk.new (w.alloc (.cells #[.int .i64 53, .int .i64 (-1074), .int .i64 971] 72)) #[.int .i64 0, .bool false, .int .u64 0, .int .i64 0] 25
  have pr : Below w.heap.size w ((w.alloc (.cells #[.int .i64 53, .int .i64 (-1074), .int .i64 971] 72)).alloc (.cells #[.int .i64 0, .bool false, .int .u64 0, .int .i64 0] 25)) := ((Below.refl _ _).alloc (Nat.le_refl _) _).alloc (by simp) _
  simp only [World.size_alloc] at K1
  have h1 : IntKind.i64.wrap 52 = 52 := by decide
  go_wp2_with (first
    | (go_at_call 75; refine (signBit_w _).mono ?_; rintro e w1 ⟨rfl, b1⟩; replace K0 := K0.below b1 K0.lt; replace K1 := K1.below b1 K1.lt; replace pr := bel pr b1; clear b1)
    | fail)
  have L0 := K0.lt
  have e0 : w1.cell? ⟨w.heap.size, 0, none⟩ = some (.int .i64 53) := K0.at 0
  have e1 : w1.cell? ⟨w.heap.size, 1, none⟩ = some (.int .i64 (-1074)) := K0.at 1
  have e2 : w1.cell? ⟨w.heap.size, 2, none⟩ = some (.int .i64 971) := K0.at 2
  go_region_held3 (fun x => x.cell? ⟨w.heap.size, 0, none⟩ = some (.int .i64 53) ∧ x.cell? ⟨w.heap.size, 1, none⟩ = some (.int .i64 (-1074)) ∧ x.cell? ⟨w.heap.size, 2, none⟩ = some (.int .i64 971)) (go_keep) (first
    | (go_at_call 76; refine (topField_w _).mono ?_; rintro e w2 ⟨rfl, b2⟩; have f0 := (b2.cell (p := ⟨w.heap.size, 0, none⟩) L0).trans e0; have f1 := (b2.cell (p := ⟨w.heap.size, 1, none⟩) L0).trans e1; have f2 := (b2.cell (p := ⟨w.heap.size, 2, none⟩) L0).trans e2)
    | fail)
  replace K0 := K0.below (below_undrew b2) K0.lt
  replace K1 := K1.below (below_undrew b2) K1.lt
  replace pr := bel_drew pr b2
  clear b2 e0 e1 e2 L0
  go_wp2_with (first
    | (go_at_call 77; refine (leastNormal_w _).mono ?_; rintro e w3 ⟨rfl, b3⟩; replace K0 := K0.below b3 K0.lt; replace K1 := K1.below b3 K1.lt; replace pr := bel pr b3; clear b3; have e0 : w3.cell? ⟨w.heap.size, 0, none⟩ = some (.int .i64 53) := K0.at 0; have e1 : w3.cell? ⟨w.heap.size, 1, none⟩ = some (.int .i64 (-1074)) := K0.at 1; have e2 : w3.cell? ⟨w.heap.size, 2, none⟩ = some (.int .i64 971) := K0.at 2; have c0 : w3.cell? ⟨w.heap.size + 1, 0, none⟩ = some (.int .i64 0) := K1.at 0; have c1 : w3.cell? ⟨w.heap.size + 1, 1, none⟩ = some (.bool false) := K1.at 1; have c2 : w3.cell? ⟨w.heap.size + 1, 2, none⟩ = some (.int .u64 0) := K1.at 2; have c3 : w3.cell? ⟨w.heap.size + 1, 3, none⟩ = some (.int .i64 0) := K1.at 3; have z0 := K1.free 0; have z1 := K1.free 1; have z2 := K1.free 2; have z3 := K1.free 3)
    | (go_at_call 76; refine (topField_w _).mono ?_; rintro e w3 ⟨rfl, b3⟩; replace K0 := K0.below b3 K0.lt; replace K1 := K1.below b3 K1.lt; replace pr := bel pr b3; clear b3; have e0 : w3.cell? ⟨w.heap.size, 0, none⟩ = some (.int .i64 53) := K0.at 0; have e1 : w3.cell? ⟨w.heap.size, 1, none⟩ = some (.int .i64 (-1074)) := K0.at 1; have e2 : w3.cell? ⟨w.heap.size, 2, none⟩ = some (.int .i64 971) := K0.at 2; have c0 : w3.cell? ⟨w.heap.size + 1, 0, none⟩ = some (.int .i64 0) := K1.at 0; have c1 : w3.cell? ⟨w.heap.size + 1, 1, none⟩ = some (.bool false) := K1.at 1; have c2 : w3.cell? ⟨w.heap.size + 1, 2, none⟩ = some (.int .u64 0) := K1.at 2; have c3 : w3.cell? ⟨w.heap.size + 1, 3, none⟩ = some (.int .i64 0) := K1.at 3; have z0 := K1.free 0; have z1 := K1.free 1; have z2 := K1.free 2; have z3 := K1.free 3)
    | fail)
  obtain ⟨F0, F1, F2, F3, FB⟩ := put4 (.int .i64 1) (.bool g) (.int .u64 f) (.int .i64 (-1074)) c0 c1 c2 c3
  exact bodyPost_ret (v := prt 1 g f (-1074)) (by simp [results, Try.results41, go_sem, F0, F1, F2, F3]) rfl ⟨rfl, FB _ _ (by omega) pr⟩
set_option maxRecDepth 100000 in
set_option maxHeartbeats 1600000 in
theorem split_w_nought (n d f : Int) (g : Bool) (hg : (bits .and .u64 n 9223372036854775808 != 0) = g) (hd : bits .and .u64 (n / 4503599627370496) 2047 = d) (hf : bits .and .u64 n 4503599627370495 = f) (d1 : d = 0) (f1 : (f != 0) = false) (w : World) :
    Calls Try.prog 41 #[fmtW, .int .u64 n] w fun e w' => e = .returned (prt 0 g 0 0) ∧ Below w.heap.size w w' := by
  go_enter Try.func41, Try.ntmps41
  have K0 : Blk ((w.alloc (.cells #[.int .i64 53, .int .i64 (-1074), .int .i64 971] 72)).alloc (.cells #[.int .i64 0, .bool false, .int .u64 0, .int .i64 0] 25)) w.heap.size #[.int .i64 53, .int .i64 (-1074), .int .i64 971] 72 := (Blk.new w _ _).alloc _
  have K1 := Blk.new (w.alloc (.cells #[.int .i64 53, .int .i64 (-1074), .int .i64 971] 72)) #[.int .i64 0, .bool false, .int .u64 0, .int .i64 0] 25
  have pr : Below w.heap.size w ((w.alloc (.cells #[.int .i64 53, .int .i64 (-1074), .int .i64 971] 72)).alloc (.cells #[.int .i64 0, .bool false, .int .u64 0, .int .i64 0] 25)) := ((Below.refl _ _).alloc (Nat.le_refl _) _).alloc (by simp) _
  simp only [World.size_alloc] at K1
  have h1 : IntKind.i64.wrap 52 = 52 := by decide
  go_wp2_with (first
    | (go_at_call 75; refine (signBit_w _).mono ?_; rintro e w1 ⟨rfl, b1⟩; replace K0 := K0.below b1 K0.lt; replace K1 := K1.below b1 K1.lt; replace pr := bel pr b1; clear b1)
    | fail)
  have L0 := K0.lt
  have e0 : w1.cell? ⟨w.heap.size, 0, none⟩ = some (.int .i64 53) := K0.at 0
  have e1 : w1.cell? ⟨w.heap.size, 1, none⟩ = some (.int .i64 (-1074)) := K0.at 1
  have e2 : w1.cell? ⟨w.heap.size, 2, none⟩ = some (.int .i64 971) := K0.at 2
  go_region_held3 (fun x => x.cell? ⟨w.heap.size, 0, none⟩ = some (.int .i64 53) ∧ x.cell? ⟨w.heap.size, 1, none⟩ = some (.int .i64 (-1074)) ∧ x.cell? ⟨w.heap.size, 2, none⟩ = some (.int .i64 971)) (go_keep) (first
    | (go_at_call 76; refine (topField_w _).mono ?_; rintro e w2 ⟨rfl, b2⟩; have f0 := (b2.cell (p := ⟨w.heap.size, 0, none⟩) L0).trans e0; have f1 := (b2.cell (p := ⟨w.heap.size, 1, none⟩) L0).trans e1; have f2 := (b2.cell (p := ⟨w.heap.size, 2, none⟩) L0).trans e2)
    | fail)
  replace K0 := K0.below (below_undrew b2) K0.lt
  replace K1 := K1.below (below_undrew b2) K1.lt
  replace pr := bel_drew pr b2
  clear b2 e0 e1 e2 L0
  go_wp2_with (first
    | (go_at_call 77; refine (leastNormal_w _).mono ?_; rintro e w3 ⟨rfl, b3⟩; replace K0 := K0.below b3 K0.lt; replace K1 := K1.below b3 K1.lt; replace pr := bel pr b3; clear b3; have e0 : w3.cell? ⟨w.heap.size, 0, none⟩ = some (.int .i64 53) := K0.at 0; have e1 : w3.cell? ⟨w.heap.size, 1, none⟩ = some (.int .i64 (-1074)) := K0.at 1; have e2 : w3.cell? ⟨w.heap.size, 2, none⟩ = some (.int .i64 971) := K0.at 2; have c0 : w3.cell? ⟨w.heap.size + 1, 0, none⟩ = some (.int .i64 0) := K1.at 0; have c1 : w3.cell? ⟨w.heap.size + 1, 1, none⟩ = some (.bool false) := K1.at 1; have c2 : w3.cell? ⟨w.heap.size + 1, 2, none⟩ = some (.int .u64 0) := K1.at 2; have c3 : w3.cell? ⟨w.heap.size + 1, 3, none⟩ = some (.int .i64 0) := K1.at 3; have z0 := K1.free 0; have z1 := K1.free 1; have z2 := K1.free 2; have z3 := K1.free 3)
    | (go_at_call 76; refine (topField_w _).mono ?_; rintro e w3 ⟨rfl, b3⟩; replace K0 := K0.below b3 K0.lt; replace K1 := K1.below b3 K1.lt; replace pr := bel pr b3; clear b3; have e0 : w3.cell? ⟨w.heap.size, 0, none⟩ = some (.int .i64 53) := K0.at 0; have e1 : w3.cell? ⟨w.heap.size, 1, none⟩ = some (.int .i64 (-1074)) := K0.at 1; have e2 : w3.cell? ⟨w.heap.size, 2, none⟩ = some (.int .i64 971) := K0.at 2; have c0 : w3.cell? ⟨w.heap.size + 1, 0, none⟩ = some (.int .i64 0) := K1.at 0; have c1 : w3.cell? ⟨w.heap.size + 1, 1, none⟩ = some (.bool false) := K1.at 1; have c2 : w3.cell? ⟨w.heap.size + 1, 2, none⟩ = some (.int .u64 0) := K1.at 2; have c3 : w3.cell? ⟨w.heap.size + 1, 3, none⟩ = some (.int .i64 0) := K1.at 3; have z0 := K1.free 0; have z1 := K1.free 1; have z2 := K1.free 2; have z3 := K1.free 3)
    | fail)
  obtain ⟨F0, F1, F2, F3, FB⟩ := put4 (.int .i64 0) (.bool g) (.int .u64 0) (.int .i64 0) c0 c1 c2 c3
  exact bodyPost_ret (v := prt 0 g 0 0) (by simp [results, Try.results41, go_sem, F0, F1, F2, F3]) rfl ⟨rfl, FB _ _ (by omega) pr⟩
set_option maxRecDepth 100000 in
set_option maxHeartbeats 1600000 in
theorem split_w_normal (n d f s : Int) (g : Bool) (hg : (bits .and .u64 n 9223372036854775808 != 0) = g) (hd : bits .and .u64 (n / 4503599627370496) 2047 = d) (hf : bits .and .u64 n 4503599627370495 = f) (d1 : (d != 0) = true) (d2 : (d == 2047) = false) (hs : bits .or .u64 f 4503599627370496 = s) (hx1 : IntKind.i64.wrap d = d) (hx2 : IntKind.i64.wrap (d - 1) = d - 1) (hx3 : IntKind.i64.wrap (d - 1 + -1074) = d - 1 + -1074) (w : World) :
    Calls Try.prog 41 #[fmtW, .int .u64 n] w fun e w' => e = .returned (prt 2 g s (d - 1 + -1074)) ∧ Below w.heap.size w w' := by
  go_enter Try.func41, Try.ntmps41
  have K0 : Blk ((w.alloc (.cells #[.int .i64 53, .int .i64 (-1074), .int .i64 971] 72)).alloc (.cells #[.int .i64 0, .bool false, .int .u64 0, .int .i64 0] 25)) w.heap.size #[.int .i64 53, .int .i64 (-1074), .int .i64 971] 72 := (Blk.new w _ _).alloc _
  have K1 := Blk.new (w.alloc (.cells #[.int .i64 53, .int .i64 (-1074), .int .i64 971] 72)) #[.int .i64 0, .bool false, .int .u64 0, .int .i64 0] 25
  have pr : Below w.heap.size w ((w.alloc (.cells #[.int .i64 53, .int .i64 (-1074), .int .i64 971] 72)).alloc (.cells #[.int .i64 0, .bool false, .int .u64 0, .int .i64 0] 25)) := ((Below.refl _ _).alloc (Nat.le_refl _) _).alloc (by simp) _
  simp only [World.size_alloc] at K1
  have h1 : IntKind.i64.wrap 52 = 52 := by decide
  go_wp2_with (first
    | (go_at_call 75; refine (signBit_w _).mono ?_; rintro e w1 ⟨rfl, b1⟩; replace K0 := K0.below b1 K0.lt; replace K1 := K1.below b1 K1.lt; replace pr := bel pr b1; clear b1)
    | fail)
  have L0 := K0.lt
  have e0 : w1.cell? ⟨w.heap.size, 0, none⟩ = some (.int .i64 53) := K0.at 0
  have e1 : w1.cell? ⟨w.heap.size, 1, none⟩ = some (.int .i64 (-1074)) := K0.at 1
  have e2 : w1.cell? ⟨w.heap.size, 2, none⟩ = some (.int .i64 971) := K0.at 2
  go_region_held3 (fun x => x.cell? ⟨w.heap.size, 0, none⟩ = some (.int .i64 53) ∧ x.cell? ⟨w.heap.size, 1, none⟩ = some (.int .i64 (-1074)) ∧ x.cell? ⟨w.heap.size, 2, none⟩ = some (.int .i64 971)) (go_keep) (first
    | (go_at_call 76; refine (topField_w _).mono ?_; rintro e w2 ⟨rfl, b2⟩; have f0 := (b2.cell (p := ⟨w.heap.size, 0, none⟩) L0).trans e0; have f1 := (b2.cell (p := ⟨w.heap.size, 1, none⟩) L0).trans e1; have f2 := (b2.cell (p := ⟨w.heap.size, 2, none⟩) L0).trans e2)
    | fail)
  replace K0 := K0.below (below_undrew b2) K0.lt
  replace K1 := K1.below (below_undrew b2) K1.lt
  replace pr := bel_drew pr b2
  clear b2 e0 e1 e2 L0
  go_wp2_with (first
    | (go_at_call 77; refine (leastNormal_w _).mono ?_; rintro e w3 ⟨rfl, b3⟩; replace K0 := K0.below b3 K0.lt; replace K1 := K1.below b3 K1.lt; replace pr := bel pr b3; clear b3; have e0 : w3.cell? ⟨w.heap.size, 0, none⟩ = some (.int .i64 53) := K0.at 0; have e1 : w3.cell? ⟨w.heap.size, 1, none⟩ = some (.int .i64 (-1074)) := K0.at 1; have e2 : w3.cell? ⟨w.heap.size, 2, none⟩ = some (.int .i64 971) := K0.at 2; have c0 : w3.cell? ⟨w.heap.size + 1, 0, none⟩ = some (.int .i64 0) := K1.at 0; have c1 : w3.cell? ⟨w.heap.size + 1, 1, none⟩ = some (.bool false) := K1.at 1; have c2 : w3.cell? ⟨w.heap.size + 1, 2, none⟩ = some (.int .u64 0) := K1.at 2; have c3 : w3.cell? ⟨w.heap.size + 1, 3, none⟩ = some (.int .i64 0) := K1.at 3; have z0 := K1.free 0; have z1 := K1.free 1; have z2 := K1.free 2; have z3 := K1.free 3)
    | (go_at_call 76; refine (topField_w _).mono ?_; rintro e w3 ⟨rfl, b3⟩; replace K0 := K0.below b3 K0.lt; replace K1 := K1.below b3 K1.lt; replace pr := bel pr b3; clear b3; have e0 : w3.cell? ⟨w.heap.size, 0, none⟩ = some (.int .i64 53) := K0.at 0; have e1 : w3.cell? ⟨w.heap.size, 1, none⟩ = some (.int .i64 (-1074)) := K0.at 1; have e2 : w3.cell? ⟨w.heap.size, 2, none⟩ = some (.int .i64 971) := K0.at 2; have c0 : w3.cell? ⟨w.heap.size + 1, 0, none⟩ = some (.int .i64 0) := K1.at 0; have c1 : w3.cell? ⟨w.heap.size + 1, 1, none⟩ = some (.bool false) := K1.at 1; have c2 : w3.cell? ⟨w.heap.size + 1, 2, none⟩ = some (.int .u64 0) := K1.at 2; have c3 : w3.cell? ⟨w.heap.size + 1, 3, none⟩ = some (.int .i64 0) := K1.at 3; have z0 := K1.free 0; have z1 := K1.free 1; have z2 := K1.free 2; have z3 := K1.free 3)
    | fail)
  have M0 := K0
  have M1 := K1
  go_region_held3 (fun x => x.cell? ⟨w.heap.size, 0, none⟩ = some (.int .i64 53) ∧ x.cell? ⟨w.heap.size, 1, none⟩ = some (.int .i64 (-1074)) ∧ x.cell? ⟨w.heap.size, 2, none⟩ = some (.int .i64 971)) (go_keep) (first
    | (go_at_call 77; refine (leastNormal_w _).mono ?_; rintro e w4 ⟨rfl, b4⟩; replace K0 := M0.below (below_undrew b4) M0.lt; replace K1 := M1.below (below_undrew b4) M1.lt; have e0 : w4.cell? ⟨w.heap.size, 0, none⟩ = some (.int .i64 53) := K0.at 0; have e1 : w4.cell? ⟨w.heap.size, 1, none⟩ = some (.int .i64 (-1074)) := K0.at 1; have e2 : w4.cell? ⟨w.heap.size, 2, none⟩ = some (.int .i64 971) := K0.at 2; have c0 : w4.cell? ⟨w.heap.size + 1, 0, none⟩ = some (.int .i64 0) := K1.at 0; have c1 : w4.cell? ⟨w.heap.size + 1, 1, none⟩ = some (.bool false) := K1.at 1; have c2 : w4.cell? ⟨w.heap.size + 1, 2, none⟩ = some (.int .u64 0) := K1.at 2; have c3 : w4.cell? ⟨w.heap.size + 1, 3, none⟩ = some (.int .i64 0) := K1.at 3; have z0 := K1.free 0; have z1 := K1.free 1; have z2 := K1.free 2; have z3 := K1.free 3)
    | fail)
  replace pr := bel_drew pr b4
  obtain ⟨F0, F1, F2, F3, FB⟩ := put4 (.int .i64 2) (.bool g) (.int .u64 s) (.int .i64 (d - 1 + -1074)) c0 c1 c2 c3
  go_wp2
  exact bodyPost_ret (v := prt 2 g s (d - 1 + -1074)) (by simp [results, Try.results41, go_sem, F0, F1, F2, F3]) rfl ⟨rfl, FB _ _ (by omega) pr⟩
set_option maxRecDepth 100000 in
set_option maxHeartbeats 1600000 in
theorem split_s_none (n d f : Int) (g : Bool) (hg : (bits .and .u64 n 2147483648 != 0) = g) (hd : bits .and .u64 (n / 8388608) 255 = d) (hf : bits .and .u64 n 8388607 = f) (d1 : d = 255) (f1 : (f != 0) = true) (w : World) :
    Calls Try.prog 41 #[fmtS, .int .u64 n] w fun e w' => e = .returned (prt 4 false 0 0) ∧ Below w.heap.size w w' := by
  go_enter Try.func41, Try.ntmps41
  have K0 : Blk ((w.alloc (.cells #[.int .i64 24, .int .i64 (-149), .int .i64 104] 72)).alloc (.cells #[.int .i64 0, .bool false, .int .u64 0, .int .i64 0] 25)) w.heap.size #[.int .i64 24, .int .i64 (-149), .int .i64 104] 72 := (Blk.new w _ _).alloc _
  have K1 := Blk.new (w.alloc (.cells #[.int .i64 24, .int .i64 (-149), .int .i64 104] 72)) #[.int .i64 0, .bool false, .int .u64 0, .int .i64 0] 25
  have pr : Below w.heap.size w ((w.alloc (.cells #[.int .i64 24, .int .i64 (-149), .int .i64 104] 72)).alloc (.cells #[.int .i64 0, .bool false, .int .u64 0, .int .i64 0] 25)) := ((Below.refl _ _).alloc (Nat.le_refl _) _).alloc (by simp) _
  simp only [World.size_alloc] at K1
  have h1 : IntKind.i64.wrap 23 = 23 := by decide
  go_wp2_with (first
    | (go_at_call 75; refine (signBit_s _).mono ?_; rintro e w1 ⟨rfl, b1⟩; replace K0 := K0.below b1 K0.lt; replace K1 := K1.below b1 K1.lt; replace pr := bel pr b1; clear b1)
    | fail)
  have L0 := K0.lt
  have e0 : w1.cell? ⟨w.heap.size, 0, none⟩ = some (.int .i64 24) := K0.at 0
  have e1 : w1.cell? ⟨w.heap.size, 1, none⟩ = some (.int .i64 (-149)) := K0.at 1
  have e2 : w1.cell? ⟨w.heap.size, 2, none⟩ = some (.int .i64 104) := K0.at 2
  go_region_held3 (fun x => x.cell? ⟨w.heap.size, 0, none⟩ = some (.int .i64 24) ∧ x.cell? ⟨w.heap.size, 1, none⟩ = some (.int .i64 (-149)) ∧ x.cell? ⟨w.heap.size, 2, none⟩ = some (.int .i64 104)) (go_keep) (first
    | (go_at_call 76; refine (topField_s _).mono ?_; rintro e w2 ⟨rfl, b2⟩; have f0 := (b2.cell (p := ⟨w.heap.size, 0, none⟩) L0).trans e0; have f1 := (b2.cell (p := ⟨w.heap.size, 1, none⟩) L0).trans e1; have f2 := (b2.cell (p := ⟨w.heap.size, 2, none⟩) L0).trans e2)
    | fail)
  replace K0 := K0.below (below_undrew b2) K0.lt
  replace K1 := K1.below (below_undrew b2) K1.lt
  replace pr := bel_drew pr b2
  clear b2 e0 e1 e2 L0
  go_wp2_with (first
    | (go_at_call 77; refine (leastNormal_s _).mono ?_; rintro e w3 ⟨rfl, b3⟩; replace K0 := K0.below b3 K0.lt; replace K1 := K1.below b3 K1.lt; replace pr := bel pr b3; clear b3; have e0 : w3.cell? ⟨w.heap.size, 0, none⟩ = some (.int .i64 24) := K0.at 0; have e1 : w3.cell? ⟨w.heap.size, 1, none⟩ = some (.int .i64 (-149)) := K0.at 1; have e2 : w3.cell? ⟨w.heap.size, 2, none⟩ = some (.int .i64 104) := K0.at 2; have c0 : w3.cell? ⟨w.heap.size + 1, 0, none⟩ = some (.int .i64 0) := K1.at 0; have c1 : w3.cell? ⟨w.heap.size + 1, 1, none⟩ = some (.bool false) := K1.at 1; have c2 : w3.cell? ⟨w.heap.size + 1, 2, none⟩ = some (.int .u64 0) := K1.at 2; have c3 : w3.cell? ⟨w.heap.size + 1, 3, none⟩ = some (.int .i64 0) := K1.at 3; have z0 := K1.free 0; have z1 := K1.free 1; have z2 := K1.free 2; have z3 := K1.free 3)
    | (go_at_call 76; refine (topField_s _).mono ?_; rintro e w3 ⟨rfl, b3⟩; replace K0 := K0.below b3 K0.lt; replace K1 := K1.below b3 K1.lt; replace pr := bel pr b3; clear b3; have e0 : w3.cell? ⟨w.heap.size, 0, none⟩ = some (.int .i64 24) := K0.at 0; have e1 : w3.cell? ⟨w.heap.size, 1, none⟩ = some (.int .i64 (-149)) := K0.at 1; have e2 : w3.cell? ⟨w.heap.size, 2, none⟩ = some (.int .i64 104) := K0.at 2; have c0 : w3.cell? ⟨w.heap.size + 1, 0, none⟩ = some (.int .i64 0) := K1.at 0; have c1 : w3.cell? ⟨w.heap.size + 1, 1, none⟩ = some (.bool false) := K1.at 1; have c2 : w3.cell? ⟨w.heap.size + 1, 2, none⟩ = some (.int .u64 0) := K1.at 2; have c3 : w3.cell? ⟨w.heap.size + 1, 3, none⟩ = some (.int .i64 0) := K1.at 3; have z0 := K1.free 0; have z1 := K1.free 1; have z2 := K1.free 2; have z3 := K1.free 3)
    | fail)
  obtain ⟨F0, F1, F2, F3, FB⟩ := put4 (.int .i64 4) (.bool false) (.int .u64 0) (.int .i64 0) c0 c1 c2 c3
  exact bodyPost_ret (v := prt 4 false 0 0) (by simp [results, Try.results41, go_sem, F0, F1, F2, F3]) rfl ⟨rfl, FB _ _ (by omega) pr⟩
set_option maxRecDepth 100000 in
set_option maxHeartbeats 1600000 in
theorem split_s_inf (n d f : Int) (g : Bool) (hg : (bits .and .u64 n 2147483648 != 0) = g) (hd : bits .and .u64 (n / 8388608) 255 = d) (hf : bits .and .u64 n 8388607 = f) (d1 : d = 255) (f1 : (f != 0) = false) (w : World) :
    Calls Try.prog 41 #[fmtS, .int .u64 n] w fun e w' => e = .returned (prt 3 g 0 0) ∧ Below w.heap.size w w' := by
  go_enter Try.func41, Try.ntmps41
  have K0 : Blk ((w.alloc (.cells #[.int .i64 24, .int .i64 (-149), .int .i64 104] 72)).alloc (.cells #[.int .i64 0, .bool false, .int .u64 0, .int .i64 0] 25)) w.heap.size #[.int .i64 24, .int .i64 (-149), .int .i64 104] 72 := (Blk.new w _ _).alloc _
  have K1 := Blk.new (w.alloc (.cells #[.int .i64 24, .int .i64 (-149), .int .i64 104] 72)) #[.int .i64 0, .bool false, .int .u64 0, .int .i64 0] 25
  have pr : Below w.heap.size w ((w.alloc (.cells #[.int .i64 24, .int .i64 (-149), .int .i64 104] 72)).alloc (.cells #[.int .i64 0, .bool false, .int .u64 0, .int .i64 0] 25)) := ((Below.refl _ _).alloc (Nat.le_refl _) _).alloc (by simp) _
  simp only [World.size_alloc] at K1
  have h1 : IntKind.i64.wrap 23 = 23 := by decide
  go_wp2_with (first
    | (go_at_call 75; refine (signBit_s _).mono ?_; rintro e w1 ⟨rfl, b1⟩; replace K0 := K0.below b1 K0.lt; replace K1 := K1.below b1 K1.lt; replace pr := bel pr b1; clear b1)
    | fail)
  have L0 := K0.lt
  have e0 : w1.cell? ⟨w.heap.size, 0, none⟩ = some (.int .i64 24) := K0.at 0
  have e1 : w1.cell? ⟨w.heap.size, 1, none⟩ = some (.int .i64 (-149)) := K0.at 1
  have e2 : w1.cell? ⟨w.heap.size, 2, none⟩ = some (.int .i64 104) := K0.at 2
  go_region_held3 (fun x => x.cell? ⟨w.heap.size, 0, none⟩ = some (.int .i64 24) ∧ x.cell? ⟨w.heap.size, 1, none⟩ = some (.int .i64 (-149)) ∧ x.cell? ⟨w.heap.size, 2, none⟩ = some (.int .i64 104)) (go_keep) (first
    | (go_at_call 76; refine (topField_s _).mono ?_; rintro e w2 ⟨rfl, b2⟩; have f0 := (b2.cell (p := ⟨w.heap.size, 0, none⟩) L0).trans e0; have f1 := (b2.cell (p := ⟨w.heap.size, 1, none⟩) L0).trans e1; have f2 := (b2.cell (p := ⟨w.heap.size, 2, none⟩) L0).trans e2)
    | fail)
  replace K0 := K0.below (below_undrew b2) K0.lt
  replace K1 := K1.below (below_undrew b2) K1.lt
  replace pr := bel_drew pr b2
  clear b2 e0 e1 e2 L0
  go_wp2_with (first
    | (go_at_call 77; refine (leastNormal_s _).mono ?_; rintro e w3 ⟨rfl, b3⟩; replace K0 := K0.below b3 K0.lt; replace K1 := K1.below b3 K1.lt; replace pr := bel pr b3; clear b3; have e0 : w3.cell? ⟨w.heap.size, 0, none⟩ = some (.int .i64 24) := K0.at 0; have e1 : w3.cell? ⟨w.heap.size, 1, none⟩ = some (.int .i64 (-149)) := K0.at 1; have e2 : w3.cell? ⟨w.heap.size, 2, none⟩ = some (.int .i64 104) := K0.at 2; have c0 : w3.cell? ⟨w.heap.size + 1, 0, none⟩ = some (.int .i64 0) := K1.at 0; have c1 : w3.cell? ⟨w.heap.size + 1, 1, none⟩ = some (.bool false) := K1.at 1; have c2 : w3.cell? ⟨w.heap.size + 1, 2, none⟩ = some (.int .u64 0) := K1.at 2; have c3 : w3.cell? ⟨w.heap.size + 1, 3, none⟩ = some (.int .i64 0) := K1.at 3; have z0 := K1.free 0; have z1 := K1.free 1; have z2 := K1.free 2; have z3 := K1.free 3)
    | (go_at_call 76; refine (topField_s _).mono ?_; rintro e w3 ⟨rfl, b3⟩; replace K0 := K0.below b3 K0.lt; replace K1 := K1.below b3 K1.lt; replace pr := bel pr b3; clear b3; have e0 : w3.cell? ⟨w.heap.size, 0, none⟩ = some (.int .i64 24) := K0.at 0; have e1 : w3.cell? ⟨w.heap.size, 1, none⟩ = some (.int .i64 (-149)) := K0.at 1; have e2 : w3.cell? ⟨w.heap.size, 2, none⟩ = some (.int .i64 104) := K0.at 2; have c0 : w3.cell? ⟨w.heap.size + 1, 0, none⟩ = some (.int .i64 0) := K1.at 0; have c1 : w3.cell? ⟨w.heap.size + 1, 1, none⟩ = some (.bool false) := K1.at 1; have c2 : w3.cell? ⟨w.heap.size + 1, 2, none⟩ = some (.int .u64 0) := K1.at 2; have c3 : w3.cell? ⟨w.heap.size + 1, 3, none⟩ = some (.int .i64 0) := K1.at 3; have z0 := K1.free 0; have z1 := K1.free 1; have z2 := K1.free 2; have z3 := K1.free 3)
    | fail)
  obtain ⟨F0, F1, F2, F3, FB⟩ := put4 (.int .i64 3) (.bool g) (.int .u64 0) (.int .i64 0) c0 c1 c2 c3
  exact bodyPost_ret (v := prt 3 g 0 0) (by simp [results, Try.results41, go_sem, F0, F1, F2, F3]) rfl ⟨rfl, FB _ _ (by omega) pr⟩
set_option maxRecDepth 100000 in
set_option maxHeartbeats 1600000 in
theorem split_s_small (n d f : Int) (g : Bool) (hg : (bits .and .u64 n 2147483648 != 0) = g) (hd : bits .and .u64 (n / 8388608) 255 = d) (hf : bits .and .u64 n 8388607 = f) (d1 : d = 0) (f1 : (f != 0) = true) (w : World) :
    Calls Try.prog 41 #[fmtS, .int .u64 n] w fun e w' => e = .returned (prt 1 g f (-149)) ∧ Below w.heap.size w w' := by
  go_enter Try.func41, Try.ntmps41
  have K0 : Blk ((w.alloc (.cells #[.int .i64 24, .int .i64 (-149), .int .i64 104] 72)).alloc (.cells #[.int .i64 0, .bool false, .int .u64 0, .int .i64 0] 25)) w.heap.size #[.int .i64 24, .int .i64 (-149), .int .i64 104] 72 := (Blk.new w _ _).alloc _
  have K1 := Blk.new (w.alloc (.cells #[.int .i64 24, .int .i64 (-149), .int .i64 104] 72)) #[.int .i64 0, .bool false, .int .u64 0, .int .i64 0] 25
  have pr : Below w.heap.size w ((w.alloc (.cells #[.int .i64 24, .int .i64 (-149), .int .i64 104] 72)).alloc (.cells #[.int .i64 0, .bool false, .int .u64 0, .int .i64 0] 25)) := ((Below.refl _ _).alloc (Nat.le_refl _) _).alloc (by simp) _
  simp only [World.size_alloc] at K1
  have h1 : IntKind.i64.wrap 23 = 23 := by decide
  go_wp2_with (first
    | (go_at_call 75; refine (signBit_s _).mono ?_; rintro e w1 ⟨rfl, b1⟩; replace K0 := K0.below b1 K0.lt; replace K1 := K1.below b1 K1.lt; replace pr := bel pr b1; clear b1)
    | fail)
  have L0 := K0.lt
  have e0 : w1.cell? ⟨w.heap.size, 0, none⟩ = some (.int .i64 24) := K0.at 0
  have e1 : w1.cell? ⟨w.heap.size, 1, none⟩ = some (.int .i64 (-149)) := K0.at 1
  have e2 : w1.cell? ⟨w.heap.size, 2, none⟩ = some (.int .i64 104) := K0.at 2
  go_region_held3 (fun x => x.cell? ⟨w.heap.size, 0, none⟩ = some (.int .i64 24) ∧ x.cell? ⟨w.heap.size, 1, none⟩ = some (.int .i64 (-149)) ∧ x.cell? ⟨w.heap.size, 2, none⟩ = some (.int .i64 104)) (go_keep) (first
    | (go_at_call 76; refine (topField_s _).mono ?_; rintro e w2 ⟨rfl, b2⟩; have f0 := (b2.cell (p := ⟨w.heap.size, 0, none⟩) L0).trans e0; have f1 := (b2.cell (p := ⟨w.heap.size, 1, none⟩) L0).trans e1; have f2 := (b2.cell (p := ⟨w.heap.size, 2, none⟩) L0).trans e2)
    | fail)
  replace K0 := K0.below (below_undrew b2) K0.lt
  replace K1 := K1.below (below_undrew b2) K1.lt
  replace pr := bel_drew pr b2
  clear b2 e0 e1 e2 L0
  go_wp2_with (first
    | (go_at_call 77; refine (leastNormal_s _).mono ?_; rintro e w3 ⟨rfl, b3⟩; replace K0 := K0.below b3 K0.lt; replace K1 := K1.below b3 K1.lt; replace pr := bel pr b3; clear b3; have e0 : w3.cell? ⟨w.heap.size, 0, none⟩ = some (.int .i64 24) := K0.at 0; have e1 : w3.cell? ⟨w.heap.size, 1, none⟩ = some (.int .i64 (-149)) := K0.at 1; have e2 : w3.cell? ⟨w.heap.size, 2, none⟩ = some (.int .i64 104) := K0.at 2; have c0 : w3.cell? ⟨w.heap.size + 1, 0, none⟩ = some (.int .i64 0) := K1.at 0; have c1 : w3.cell? ⟨w.heap.size + 1, 1, none⟩ = some (.bool false) := K1.at 1; have c2 : w3.cell? ⟨w.heap.size + 1, 2, none⟩ = some (.int .u64 0) := K1.at 2; have c3 : w3.cell? ⟨w.heap.size + 1, 3, none⟩ = some (.int .i64 0) := K1.at 3; have z0 := K1.free 0; have z1 := K1.free 1; have z2 := K1.free 2; have z3 := K1.free 3)
    | (go_at_call 76; refine (topField_s _).mono ?_; rintro e w3 ⟨rfl, b3⟩; replace K0 := K0.below b3 K0.lt; replace K1 := K1.below b3 K1.lt; replace pr := bel pr b3; clear b3; have e0 : w3.cell? ⟨w.heap.size, 0, none⟩ = some (.int .i64 24) := K0.at 0; have e1 : w3.cell? ⟨w.heap.size, 1, none⟩ = some (.int .i64 (-149)) := K0.at 1; have e2 : w3.cell? ⟨w.heap.size, 2, none⟩ = some (.int .i64 104) := K0.at 2; have c0 : w3.cell? ⟨w.heap.size + 1, 0, none⟩ = some (.int .i64 0) := K1.at 0; have c1 : w3.cell? ⟨w.heap.size + 1, 1, none⟩ = some (.bool false) := K1.at 1; have c2 : w3.cell? ⟨w.heap.size + 1, 2, none⟩ = some (.int .u64 0) := K1.at 2; have c3 : w3.cell? ⟨w.heap.size + 1, 3, none⟩ = some (.int .i64 0) := K1.at 3; have z0 := K1.free 0; have z1 := K1.free 1; have z2 := K1.free 2; have z3 := K1.free 3)
    | fail)
  obtain ⟨F0, F1, F2, F3, FB⟩ := put4 (.int .i64 1) (.bool g) (.int .u64 f) (.int .i64 (-149)) c0 c1 c2 c3
  exact bodyPost_ret (v := prt 1 g f (-149)) (by simp [results, Try.results41, go_sem, F0, F1, F2, F3]) rfl ⟨rfl, FB _ _ (by omega) pr⟩
set_option maxRecDepth 100000 in
set_option maxHeartbeats 1600000 in
theorem split_s_nought (n d f : Int) (g : Bool) (hg : (bits .and .u64 n 2147483648 != 0) = g) (hd : bits .and .u64 (n / 8388608) 255 = d) (hf : bits .and .u64 n 8388607 = f) (d1 : d = 0) (f1 : (f != 0) = false) (w : World) :
    Calls Try.prog 41 #[fmtS, .int .u64 n] w fun e w' => e = .returned (prt 0 g 0 0) ∧ Below w.heap.size w w' := by
  go_enter Try.func41, Try.ntmps41
  have K0 : Blk ((w.alloc (.cells #[.int .i64 24, .int .i64 (-149), .int .i64 104] 72)).alloc (.cells #[.int .i64 0, .bool false, .int .u64 0, .int .i64 0] 25)) w.heap.size #[.int .i64 24, .int .i64 (-149), .int .i64 104] 72 := (Blk.new w _ _).alloc _
  have K1 := Blk.new (w.alloc (.cells #[.int .i64 24, .int .i64 (-149), .int .i64 104] 72)) #[.int .i64 0, .bool false, .int .u64 0, .int .i64 0] 25
  have pr : Below w.heap.size w ((w.alloc (.cells #[.int .i64 24, .int .i64 (-149), .int .i64 104] 72)).alloc (.cells #[.int .i64 0, .bool false, .int .u64 0, .int .i64 0] 25)) := ((Below.refl _ _).alloc (Nat.le_refl _) _).alloc (by simp) _
  simp only [World.size_alloc] at K1
  have h1 : IntKind.i64.wrap 23 = 23 := by decide
  go_wp2_with (first
    | (go_at_call 75; refine (signBit_s _).mono ?_; rintro e w1 ⟨rfl, b1⟩; replace K0 := K0.below b1 K0.lt; replace K1 := K1.below b1 K1.lt; replace pr := bel pr b1; clear b1)
    | fail)
  have L0 := K0.lt
  have e0 : w1.cell? ⟨w.heap.size, 0, none⟩ = some (.int .i64 24) := K0.at 0
  have e1 : w1.cell? ⟨w.heap.size, 1, none⟩ = some (.int .i64 (-149)) := K0.at 1
  have e2 : w1.cell? ⟨w.heap.size, 2, none⟩ = some (.int .i64 104) := K0.at 2
  go_region_held3 (fun x => x.cell? ⟨w.heap.size, 0, none⟩ = some (.int .i64 24) ∧ x.cell? ⟨w.heap.size, 1, none⟩ = some (.int .i64 (-149)) ∧ x.cell? ⟨w.heap.size, 2, none⟩ = some (.int .i64 104)) (go_keep) (first
    | (go_at_call 76; refine (topField_s _).mono ?_; rintro e w2 ⟨rfl, b2⟩; have f0 := (b2.cell (p := ⟨w.heap.size, 0, none⟩) L0).trans e0; have f1 := (b2.cell (p := ⟨w.heap.size, 1, none⟩) L0).trans e1; have f2 := (b2.cell (p := ⟨w.heap.size, 2, none⟩) L0).trans e2)
    | fail)
  replace K0 := K0.below (below_undrew b2) K0.lt
  replace K1 := K1.below (below_undrew b2) K1.lt
  replace pr := bel_drew pr b2
  clear b2 e0 e1 e2 L0
  go_wp2_with (first
    | (go_at_call 77; refine (leastNormal_s _).mono ?_; rintro e w3 ⟨rfl, b3⟩; replace K0 := K0.below b3 K0.lt; replace K1 := K1.below b3 K1.lt; replace pr := bel pr b3; clear b3; have e0 : w3.cell? ⟨w.heap.size, 0, none⟩ = some (.int .i64 24) := K0.at 0; have e1 : w3.cell? ⟨w.heap.size, 1, none⟩ = some (.int .i64 (-149)) := K0.at 1; have e2 : w3.cell? ⟨w.heap.size, 2, none⟩ = some (.int .i64 104) := K0.at 2; have c0 : w3.cell? ⟨w.heap.size + 1, 0, none⟩ = some (.int .i64 0) := K1.at 0; have c1 : w3.cell? ⟨w.heap.size + 1, 1, none⟩ = some (.bool false) := K1.at 1; have c2 : w3.cell? ⟨w.heap.size + 1, 2, none⟩ = some (.int .u64 0) := K1.at 2; have c3 : w3.cell? ⟨w.heap.size + 1, 3, none⟩ = some (.int .i64 0) := K1.at 3; have z0 := K1.free 0; have z1 := K1.free 1; have z2 := K1.free 2; have z3 := K1.free 3)
    | (go_at_call 76; refine (topField_s _).mono ?_; rintro e w3 ⟨rfl, b3⟩; replace K0 := K0.below b3 K0.lt; replace K1 := K1.below b3 K1.lt; replace pr := bel pr b3; clear b3; have e0 : w3.cell? ⟨w.heap.size, 0, none⟩ = some (.int .i64 24) := K0.at 0; have e1 : w3.cell? ⟨w.heap.size, 1, none⟩ = some (.int .i64 (-149)) := K0.at 1; have e2 : w3.cell? ⟨w.heap.size, 2, none⟩ = some (.int .i64 104) := K0.at 2; have c0 : w3.cell? ⟨w.heap.size + 1, 0, none⟩ = some (.int .i64 0) := K1.at 0; have c1 : w3.cell? ⟨w.heap.size + 1, 1, none⟩ = some (.bool false) := K1.at 1; have c2 : w3.cell? ⟨w.heap.size + 1, 2, none⟩ = some (.int .u64 0) := K1.at 2; have c3 : w3.cell? ⟨w.heap.size + 1, 3, none⟩ = some (.int .i64 0) := K1.at 3; have z0 := K1.free 0; have z1 := K1.free 1; have z2 := K1.free 2; have z3 := K1.free 3)
    | fail)
  obtain ⟨F0, F1, F2, F3, FB⟩ := put4 (.int .i64 0) (.bool g) (.int .u64 0) (.int .i64 0) c0 c1 c2 c3
  exact bodyPost_ret (v := prt 0 g 0 0) (by simp [results, Try.results41, go_sem, F0, F1, F2, F3]) rfl ⟨rfl, FB _ _ (by omega) pr⟩
set_option maxRecDepth 100000 in
set_option maxHeartbeats 1600000 in
theorem split_s_normal (n d f s : Int) (g : Bool) (hg : (bits .and .u64 n 2147483648 != 0) = g) (hd : bits .and .u64 (n / 8388608) 255 = d) (hf : bits .and .u64 n 8388607 = f) (d1 : (d != 0) = true) (d2 : (d == 255) = false) (hs : bits .or .u64 f 8388608 = s) (hx1 : IntKind.i64.wrap d = d) (hx2 : IntKind.i64.wrap (d - 1) = d - 1) (hx3 : IntKind.i64.wrap (d - 1 + -149) = d - 1 + -149) (w : World) :
    Calls Try.prog 41 #[fmtS, .int .u64 n] w fun e w' => e = .returned (prt 2 g s (d - 1 + -149)) ∧ Below w.heap.size w w' := by
  go_enter Try.func41, Try.ntmps41
  have K0 : Blk ((w.alloc (.cells #[.int .i64 24, .int .i64 (-149), .int .i64 104] 72)).alloc (.cells #[.int .i64 0, .bool false, .int .u64 0, .int .i64 0] 25)) w.heap.size #[.int .i64 24, .int .i64 (-149), .int .i64 104] 72 := (Blk.new w _ _).alloc _
  have K1 := Blk.new (w.alloc (.cells #[.int .i64 24, .int .i64 (-149), .int .i64 104] 72)) #[.int .i64 0, .bool false, .int .u64 0, .int .i64 0] 25
  have pr : Below w.heap.size w ((w.alloc (.cells #[.int .i64 24, .int .i64 (-149), .int .i64 104] 72)).alloc (.cells #[.int .i64 0, .bool false, .int .u64 0, .int .i64 0] 25)) := ((Below.refl _ _).alloc (Nat.le_refl _) _).alloc (by simp) _
  simp only [World.size_alloc] at K1
  have h1 : IntKind.i64.wrap 23 = 23 := by decide
  go_wp2_with (first
    | (go_at_call 75; refine (signBit_s _).mono ?_; rintro e w1 ⟨rfl, b1⟩; replace K0 := K0.below b1 K0.lt; replace K1 := K1.below b1 K1.lt; replace pr := bel pr b1; clear b1)
    | fail)
  have L0 := K0.lt
  have e0 : w1.cell? ⟨w.heap.size, 0, none⟩ = some (.int .i64 24) := K0.at 0
  have e1 : w1.cell? ⟨w.heap.size, 1, none⟩ = some (.int .i64 (-149)) := K0.at 1
  have e2 : w1.cell? ⟨w.heap.size, 2, none⟩ = some (.int .i64 104) := K0.at 2
  go_region_held3 (fun x => x.cell? ⟨w.heap.size, 0, none⟩ = some (.int .i64 24) ∧ x.cell? ⟨w.heap.size, 1, none⟩ = some (.int .i64 (-149)) ∧ x.cell? ⟨w.heap.size, 2, none⟩ = some (.int .i64 104)) (go_keep) (first
    | (go_at_call 76; refine (topField_s _).mono ?_; rintro e w2 ⟨rfl, b2⟩; have f0 := (b2.cell (p := ⟨w.heap.size, 0, none⟩) L0).trans e0; have f1 := (b2.cell (p := ⟨w.heap.size, 1, none⟩) L0).trans e1; have f2 := (b2.cell (p := ⟨w.heap.size, 2, none⟩) L0).trans e2)
    | fail)
  replace K0 := K0.below (below_undrew b2) K0.lt
  replace K1 := K1.below (below_undrew b2) K1.lt
  replace pr := bel_drew pr b2
  clear b2 e0 e1 e2 L0
  go_wp2_with (first
    | (go_at_call 77; refine (leastNormal_s _).mono ?_; rintro e w3 ⟨rfl, b3⟩; replace K0 := K0.below b3 K0.lt; replace K1 := K1.below b3 K1.lt; replace pr := bel pr b3; clear b3; have e0 : w3.cell? ⟨w.heap.size, 0, none⟩ = some (.int .i64 24) := K0.at 0; have e1 : w3.cell? ⟨w.heap.size, 1, none⟩ = some (.int .i64 (-149)) := K0.at 1; have e2 : w3.cell? ⟨w.heap.size, 2, none⟩ = some (.int .i64 104) := K0.at 2; have c0 : w3.cell? ⟨w.heap.size + 1, 0, none⟩ = some (.int .i64 0) := K1.at 0; have c1 : w3.cell? ⟨w.heap.size + 1, 1, none⟩ = some (.bool false) := K1.at 1; have c2 : w3.cell? ⟨w.heap.size + 1, 2, none⟩ = some (.int .u64 0) := K1.at 2; have c3 : w3.cell? ⟨w.heap.size + 1, 3, none⟩ = some (.int .i64 0) := K1.at 3; have z0 := K1.free 0; have z1 := K1.free 1; have z2 := K1.free 2; have z3 := K1.free 3)
    | (go_at_call 76; refine (topField_s _).mono ?_; rintro e w3 ⟨rfl, b3⟩; replace K0 := K0.below b3 K0.lt; replace K1 := K1.below b3 K1.lt; replace pr := bel pr b3; clear b3; have e0 : w3.cell? ⟨w.heap.size, 0, none⟩ = some (.int .i64 24) := K0.at 0; have e1 : w3.cell? ⟨w.heap.size, 1, none⟩ = some (.int .i64 (-149)) := K0.at 1; have e2 : w3.cell? ⟨w.heap.size, 2, none⟩ = some (.int .i64 104) := K0.at 2; have c0 : w3.cell? ⟨w.heap.size + 1, 0, none⟩ = some (.int .i64 0) := K1.at 0; have c1 : w3.cell? ⟨w.heap.size + 1, 1, none⟩ = some (.bool false) := K1.at 1; have c2 : w3.cell? ⟨w.heap.size + 1, 2, none⟩ = some (.int .u64 0) := K1.at 2; have c3 : w3.cell? ⟨w.heap.size + 1, 3, none⟩ = some (.int .i64 0) := K1.at 3; have z0 := K1.free 0; have z1 := K1.free 1; have z2 := K1.free 2; have z3 := K1.free 3)
    | fail)
  have M0 := K0
  have M1 := K1
  go_region_held3 (fun x => x.cell? ⟨w.heap.size, 0, none⟩ = some (.int .i64 24) ∧ x.cell? ⟨w.heap.size, 1, none⟩ = some (.int .i64 (-149)) ∧ x.cell? ⟨w.heap.size, 2, none⟩ = some (.int .i64 104)) (go_keep) (first
    | (go_at_call 77; refine (leastNormal_s _).mono ?_; rintro e w4 ⟨rfl, b4⟩; replace K0 := M0.below (below_undrew b4) M0.lt; replace K1 := M1.below (below_undrew b4) M1.lt; have e0 : w4.cell? ⟨w.heap.size, 0, none⟩ = some (.int .i64 24) := K0.at 0; have e1 : w4.cell? ⟨w.heap.size, 1, none⟩ = some (.int .i64 (-149)) := K0.at 1; have e2 : w4.cell? ⟨w.heap.size, 2, none⟩ = some (.int .i64 104) := K0.at 2; have c0 : w4.cell? ⟨w.heap.size + 1, 0, none⟩ = some (.int .i64 0) := K1.at 0; have c1 : w4.cell? ⟨w.heap.size + 1, 1, none⟩ = some (.bool false) := K1.at 1; have c2 : w4.cell? ⟨w.heap.size + 1, 2, none⟩ = some (.int .u64 0) := K1.at 2; have c3 : w4.cell? ⟨w.heap.size + 1, 3, none⟩ = some (.int .i64 0) := K1.at 3; have z0 := K1.free 0; have z1 := K1.free 1; have z2 := K1.free 2; have z3 := K1.free 3)
    | fail)
  replace pr := bel_drew pr b4
  obtain ⟨F0, F1, F2, F3, FB⟩ := put4 (.int .i64 2) (.bool g) (.int .u64 s) (.int .i64 (d - 1 + -149)) c0 c1 c2 c3
  go_wp2
  exact bodyPost_ret (v := prt 2 g s (d - 1 + -149)) (by simp [results, Try.results41, go_sem, F0, F1, F2, F3]) rfl ⟨rfl, FB _ _ (by omega) pr⟩
end Go.Proofs.Ytfpmegfdopnnpaa

namespace Go.Proofs.Ytfpmegfdopnnpaa
open Go.RowKit Tn

/-- The reference's size of floats. -/
abbrev szW : Value := .agg #[.int .i64 53, .int .i64 (-1074), .int .i64 971, .int .i64 52]
set_option maxRecDepth 100000 in
set_option maxHeartbeats 1600000 in
theorem Wide_any (w : World) : Calls Try.prog 10 #[] w fun e w' => e = .returned szW ∧ Below w.heap.size w w' := by
  go_enter Try.func10, Try.ntmps10
  go_wp2
  refine bodyPost_ret (v := szW) (by simp [results, Try.results10, go_sem]) rfl ⟨rfl, ?_⟩
  exact (Below.refl _ _).alloc (Nat.le_refl _) _
set_option maxRecDepth 100000 in
set_option maxHeartbeats 1600000 in
theorem top_w (w : World) : Calls Try.prog 43 #[szW] w fun e w' => e = .returned (.int .u64 2047) ∧ Below w.heap.size w w' := by
  go_enter Try.func43, Try.ntmps43
  go_wp2
  go_ret
  exact ⟨rfl, (Below.refl _ _).alloc (Nat.le_refl _) _⟩
set_option maxRecDepth 100000 in
set_option maxHeartbeats 1600000 in
theorem sign_w (w : World) : Calls Try.prog 78 #[szW] w fun e w' => e = .returned (.int .i64 63) ∧ Below w.heap.size w w' := by
  go_enter Try.func78, Try.ntmps78
  go_wp2
  go_ret
  exact ⟨rfl, (Below.refl _ _).alloc (Nat.le_refl _) _⟩
set_option maxRecDepth 100000 in
set_option maxHeartbeats 1600000 in
theorem Neg_w (n : Int) (g : Bool) (h : (bits .and .u64 (n / 9223372036854775808) 1 == 1) = g) (w : World) : Calls Try.prog 44 #[szW, .int .u64 n] w fun e w' => e = .returned (.bool g) ∧ Below w.heap.size w w' := by
  go_enter Try.func44, Try.ntmps44
  have K0 := Blk.new w #[.int .i64 53, .int .i64 (-1074), .int .i64 971, .int .i64 52] 31
  have pr : Below w.heap.size w (w.alloc (.cells #[.int .i64 53, .int .i64 (-1074), .int .i64 971, .int .i64 52] 31)) := (Below.refl _ _).alloc (Nat.le_refl _) _
  go_wp2_with (first
    | (go_at_call 78; refine (sign_w _).mono ?_; rintro e w1 ⟨rfl, b1⟩; replace K0 := K0.below b1 K0.lt; replace pr := bel pr b1; clear b1)
    | fail)
  go_ret
  exact ⟨rfl, pr⟩
set_option maxRecDepth 100000 in
set_option maxHeartbeats 1600000 in
theorem signed_w_pos (n : Int) (w : World) : Calls Try.prog 50 #[szW, .bool false, .int .u64 n] w fun e w' => e = .returned (.int .u64 n) ∧ Below w.heap.size w w' := by
  go_enter Try.func50, Try.ntmps50
  have K0 := Blk.new w #[.int .i64 53, .int .i64 (-1074), .int .i64 971, .int .i64 52] 31
  have pr : Below w.heap.size w (w.alloc (.cells #[.int .i64 53, .int .i64 (-1074), .int .i64 971, .int .i64 52] 31)) := (Below.refl _ _).alloc (Nat.le_refl _) _
  go_wp2
  go_ret
  exact ⟨rfl, pr⟩
set_option maxRecDepth 100000 in
set_option maxHeartbeats 1600000 in
theorem signed_w_neg (n m : Int) (h : bits .or .u64 n 9223372036854775808 = m) (w : World) : Calls Try.prog 50 #[szW, .bool true, .int .u64 n] w fun e w' => e = .returned (.int .u64 m) ∧ Below w.heap.size w w' := by
  go_enter Try.func50, Try.ntmps50
  have K0 := Blk.new w #[.int .i64 53, .int .i64 (-1074), .int .i64 971, .int .i64 52] 31
  have pr : Below w.heap.size w (w.alloc (.cells #[.int .i64 53, .int .i64 (-1074), .int .i64 971, .int .i64 52] 31)) := (Below.refl _ _).alloc (Nat.le_refl _) _
  go_wp2_with (first
    | (go_at_call 78; refine (sign_w _).mono ?_; rintro e w1 ⟨rfl, b1⟩; replace K0 := K0.below b1 K0.lt; replace pr := bel pr b1; clear b1)
    | fail)
  go_ret
  exact ⟨rfl, pr⟩
set_option maxRecDepth 100000 in
set_option maxHeartbeats 1600000 in
theorem None_w (w : World) : Calls Try.prog 48 #[szW] w fun e w' => e = .returned (.int .u64 9221120237041090560) ∧ Below w.heap.size w w' := by
  go_enter Try.func48, Try.ntmps48
  go_wp2_with fail
  have K0 := Blk.new w #[.int .i64 53, .int .i64 (-1074), .int .i64 971, .int .i64 52] 31
  have pr : Below w.heap.size w (w.alloc (.cells #[.int .i64 53, .int .i64 (-1074), .int .i64 971, .int .i64 52] 31)) := (Below.refl _ _).alloc (Nat.le_refl _) _
  generalize w.alloc (.cells #[.int .i64 53, .int .i64 (-1074), .int .i64 971, .int .i64 52] 31) = W at *
  have L0 := K0.lt
  have e0 : W.cell? ⟨w.heap.size, 0, none⟩ = some (.int .i64 53) := K0.at 0
  have e1 : W.cell? ⟨w.heap.size, 1, none⟩ = some (.int .i64 (-1074)) := K0.at 1
  have e2 : W.cell? ⟨w.heap.size, 2, none⟩ = some (.int .i64 971) := K0.at 2
  have e3 : W.cell? ⟨w.heap.size, 3, none⟩ = some (.int .i64 52) := K0.at 3
  have h1 : IntKind.i64.wrap 51 = 51 := by decide
  have h2 : bits .or .u64 9218868437227405312 2251799813685248 = 9221120237041090560 := by decide
  have h3 : IntKind.u64.wrap 9218868437227405312 = 9218868437227405312 := by decide
  have h4 : IntKind.u64.wrap 2251799813685248 = 2251799813685248 := by decide
  go_region_held3 (fun x => x.cell? ⟨w.heap.size, 0, none⟩ = some (.int .i64 53) ∧ x.cell? ⟨w.heap.size, 1, none⟩ = some (.int .i64 (-1074)) ∧ x.cell? ⟨w.heap.size, 2, none⟩ = some (.int .i64 971) ∧ x.cell? ⟨w.heap.size, 3, none⟩ = some (.int .i64 52)) (go_keep) (first
    | (go_at_call 43; refine (top_w _).mono ?_; rintro e w1 ⟨rfl, b1⟩; have J0 := K0.below (below_undrew b1) K0.lt; have f0 : w1.cell? ⟨w.heap.size, 0, none⟩ = some (.int .i64 53) := J0.at 0; have f1 : w1.cell? ⟨w.heap.size, 1, none⟩ = some (.int .i64 (-1074)) := J0.at 1; have f2 : w1.cell? ⟨w.heap.size, 2, none⟩ = some (.int .i64 971) := J0.at 2; have f3 : w1.cell? ⟨w.heap.size, 3, none⟩ = some (.int .i64 52) := J0.at 3)
    | fail)
  go_wp2
  go_ret
  exact ⟨rfl, bel_drew pr b1⟩
/-- The reference's size of small floats. -/
abbrev szS : Value := .agg #[.int .i64 24, .int .i64 (-149), .int .i64 104, .int .i64 23]
set_option maxRecDepth 100000 in
set_option maxHeartbeats 1600000 in
theorem Small_any (w : World) : Calls Try.prog 14 #[] w fun e w' => e = .returned szS ∧ Below w.heap.size w w' := by
  go_enter Try.func14, Try.ntmps14
  go_wp2
  refine bodyPost_ret (v := szS) (by simp [results, Try.results14, go_sem]) rfl ⟨rfl, ?_⟩
  exact (Below.refl _ _).alloc (Nat.le_refl _) _
set_option maxRecDepth 100000 in
set_option maxHeartbeats 1600000 in
theorem top_s (w : World) : Calls Try.prog 43 #[szS] w fun e w' => e = .returned (.int .u64 255) ∧ Below w.heap.size w w' := by
  go_enter Try.func43, Try.ntmps43
  go_wp2
  go_ret
  exact ⟨rfl, (Below.refl _ _).alloc (Nat.le_refl _) _⟩
set_option maxRecDepth 100000 in
set_option maxHeartbeats 1600000 in
theorem sign_s (w : World) : Calls Try.prog 78 #[szS] w fun e w' => e = .returned (.int .i64 31) ∧ Below w.heap.size w w' := by
  go_enter Try.func78, Try.ntmps78
  go_wp2
  go_ret
  exact ⟨rfl, (Below.refl _ _).alloc (Nat.le_refl _) _⟩
set_option maxRecDepth 100000 in
set_option maxHeartbeats 1600000 in
theorem Neg_s (n : Int) (g : Bool) (h : (bits .and .u64 (n / 2147483648) 1 == 1) = g) (w : World) : Calls Try.prog 44 #[szS, .int .u64 n] w fun e w' => e = .returned (.bool g) ∧ Below w.heap.size w w' := by
  go_enter Try.func44, Try.ntmps44
  have K0 := Blk.new w #[.int .i64 24, .int .i64 (-149), .int .i64 104, .int .i64 23] 31
  have pr : Below w.heap.size w (w.alloc (.cells #[.int .i64 24, .int .i64 (-149), .int .i64 104, .int .i64 23] 31)) := (Below.refl _ _).alloc (Nat.le_refl _) _
  go_wp2_with (first
    | (go_at_call 78; refine (sign_s _).mono ?_; rintro e w1 ⟨rfl, b1⟩; replace K0 := K0.below b1 K0.lt; replace pr := bel pr b1; clear b1)
    | fail)
  go_ret
  exact ⟨rfl, pr⟩
set_option maxRecDepth 100000 in
set_option maxHeartbeats 1600000 in
theorem signed_s_pos (n : Int) (w : World) : Calls Try.prog 50 #[szS, .bool false, .int .u64 n] w fun e w' => e = .returned (.int .u64 n) ∧ Below w.heap.size w w' := by
  go_enter Try.func50, Try.ntmps50
  have K0 := Blk.new w #[.int .i64 24, .int .i64 (-149), .int .i64 104, .int .i64 23] 31
  have pr : Below w.heap.size w (w.alloc (.cells #[.int .i64 24, .int .i64 (-149), .int .i64 104, .int .i64 23] 31)) := (Below.refl _ _).alloc (Nat.le_refl _) _
  go_wp2
  go_ret
  exact ⟨rfl, pr⟩
set_option maxRecDepth 100000 in
set_option maxHeartbeats 1600000 in
theorem signed_s_neg (n m : Int) (h : bits .or .u64 n 2147483648 = m) (w : World) : Calls Try.prog 50 #[szS, .bool true, .int .u64 n] w fun e w' => e = .returned (.int .u64 m) ∧ Below w.heap.size w w' := by
  go_enter Try.func50, Try.ntmps50
  have K0 := Blk.new w #[.int .i64 24, .int .i64 (-149), .int .i64 104, .int .i64 23] 31
  have pr : Below w.heap.size w (w.alloc (.cells #[.int .i64 24, .int .i64 (-149), .int .i64 104, .int .i64 23] 31)) := (Below.refl _ _).alloc (Nat.le_refl _) _
  go_wp2_with (first
    | (go_at_call 78; refine (sign_s _).mono ?_; rintro e w1 ⟨rfl, b1⟩; replace K0 := K0.below b1 K0.lt; replace pr := bel pr b1; clear b1)
    | fail)
  go_ret
  exact ⟨rfl, pr⟩
set_option maxRecDepth 100000 in
set_option maxHeartbeats 1600000 in
theorem None_s (w : World) : Calls Try.prog 48 #[szS] w fun e w' => e = .returned (.int .u64 2143289344) ∧ Below w.heap.size w w' := by
  go_enter Try.func48, Try.ntmps48
  go_wp2_with fail
  have K0 := Blk.new w #[.int .i64 24, .int .i64 (-149), .int .i64 104, .int .i64 23] 31
  have pr : Below w.heap.size w (w.alloc (.cells #[.int .i64 24, .int .i64 (-149), .int .i64 104, .int .i64 23] 31)) := (Below.refl _ _).alloc (Nat.le_refl _) _
  generalize w.alloc (.cells #[.int .i64 24, .int .i64 (-149), .int .i64 104, .int .i64 23] 31) = W at *
  have L0 := K0.lt
  have e0 : W.cell? ⟨w.heap.size, 0, none⟩ = some (.int .i64 24) := K0.at 0
  have e1 : W.cell? ⟨w.heap.size, 1, none⟩ = some (.int .i64 (-149)) := K0.at 1
  have e2 : W.cell? ⟨w.heap.size, 2, none⟩ = some (.int .i64 104) := K0.at 2
  have e3 : W.cell? ⟨w.heap.size, 3, none⟩ = some (.int .i64 23) := K0.at 3
  have h1 : IntKind.i64.wrap 22 = 22 := by decide
  have h2 : bits .or .u64 2139095040 4194304 = 2143289344 := by decide
  have h3 : IntKind.u64.wrap 2139095040 = 2139095040 := by decide
  have h4 : IntKind.u64.wrap 4194304 = 4194304 := by decide
  go_region_held3 (fun x => x.cell? ⟨w.heap.size, 0, none⟩ = some (.int .i64 24) ∧ x.cell? ⟨w.heap.size, 1, none⟩ = some (.int .i64 (-149)) ∧ x.cell? ⟨w.heap.size, 2, none⟩ = some (.int .i64 104) ∧ x.cell? ⟨w.heap.size, 3, none⟩ = some (.int .i64 23)) (go_keep) (first
    | (go_at_call 43; refine (top_s _).mono ?_; rintro e w1 ⟨rfl, b1⟩; have J0 := K0.below (below_undrew b1) K0.lt; have f0 : w1.cell? ⟨w.heap.size, 0, none⟩ = some (.int .i64 24) := J0.at 0; have f1 : w1.cell? ⟨w.heap.size, 1, none⟩ = some (.int .i64 (-149)) := J0.at 1; have f2 : w1.cell? ⟨w.heap.size, 2, none⟩ = some (.int .i64 104) := J0.at 2; have f3 : w1.cell? ⟨w.heap.size, 3, none⟩ = some (.int .i64 23) := J0.at 3)
    | fail)
  go_wp2
  go_ret
  exact ⟨rfl, bel_drew pr b1⟩
end Go.Proofs.Ytfpmegfdopnnpaa
