import Derived.Test.YtlngkonmalallaaPart04
import Derived.Laws.Bits64b
import Derived.Laws.ShiftsVarLaws
import Derived.WalkKit

namespace Go.Proofs.Ytlngkonmalallaa
open Go.RowKit Tn

/-- Parts as a value. -/
abbrev prt (k : Int) (g : Bool) (m e : Int) : Value := .agg #[.int .i64 k, .bool g, .int .u64 m, .int .i64 e]
/-- Four cells are written. -/
theorem put4 {w1 : World} {b : Nat} {u0 u1 u2 u3 : Value} (x y z v : Value) (g0 : w1.cell? ⟨b, 0, none⟩ = some u0) (g1 : w1.cell? ⟨b, 1, none⟩ = some u1) (g2 : w1.cell? ⟨b, 2, none⟩ = some u2) (g3 : w1.cell? ⟨b, 3, none⟩ = some u3) :
    let W := (((w1.setCell ⟨b, 0, none⟩ x).setCell ⟨b, 1, none⟩ y).setCell ⟨b, 2, none⟩ z).setCell ⟨b, 3, none⟩ v
    W.cell? ⟨b, 0, none⟩ = some x ∧ W.cell? ⟨b, 1, none⟩ = some y ∧ W.cell? ⟨b, 2, none⟩ = some z ∧ W.cell? ⟨b, 3, none⟩ = some v ∧ ∀ (B : Nat) (w : World), B ≤ b → Below B w w1 → Below B w W := by
  have h1 : (w1.setCell ⟨b, 0, none⟩ x).cell? ⟨b, 1, none⟩ = some u1 := (World.cell?_setCell_other _ _ _ _ (by simp)).trans g1
  have h2 : ((w1.setCell ⟨b, 0, none⟩ x).setCell ⟨b, 1, none⟩ y).cell? ⟨b, 2, none⟩ = some u2 := (World.cell?_setCell_other _ _ _ _ (by simp)).trans ((World.cell?_setCell_other _ _ _ _ (by simp)).trans g2)
  have h3 : (((w1.setCell ⟨b, 0, none⟩ x).setCell ⟨b, 1, none⟩ y).setCell ⟨b, 2, none⟩ z).cell? ⟨b, 3, none⟩ = some u3 := (World.cell?_setCell_other _ _ _ _ (by simp)).trans ((World.cell?_setCell_other _ _ _ _ (by simp)).trans ((World.cell?_setCell_other _ _ _ _ (by simp)).trans g3))
  refine ⟨?_, ?_, ?_, World.cell?_setCell_same _ _ _ h3, fun B w hB h => (((h.setCell (p := ⟨b, 0, none⟩) hB x).setCell (p := ⟨b, 1, none⟩) hB y).setCell (p := ⟨b, 2, none⟩) hB z).setCell (p := ⟨b, 3, none⟩) hB v⟩
  · rw [World.cell?_setCell_other _ _ _ _ (by simp), World.cell?_setCell_other _ _ _ _ (by simp), World.cell?_setCell_other _ _ _ _ (by simp), World.cell?_setCell_same _ _ _ g0]
  · rw [World.cell?_setCell_other _ _ _ _ (by simp), World.cell?_setCell_other _ _ _ _ (by simp), World.cell?_setCell_same _ _ _ h1]
  · rw [World.cell?_setCell_other _ _ _ _ (by simp), World.cell?_setCell_same _ _ _ h2]
set_option maxRecDepth 100000 in
set_option maxHeartbeats 1600000 in
theorem split_w_none (n d f : Int) (g : Bool) (hg : (bits .and .u64 n 9223372036854775808 != 0) = g) (hd : bits .and .u64 (n / 4503599627370496) 2047 = d) (hf : bits .and .u64 n 4503599627370495 = f) (d1 : d = 2047) (f1 : (f != 0) = true) (w : World) :
    Calls Try.prog 52 #[fmtW, .int .u64 n] w fun e w' => e = .returned (prt 4 false 0 0) ∧ Below w.heap.size w w' := by
  go_enter Try.func52, Try.ntmps52
  have K0 : Blk ((w.alloc (.cells #[.int .i64 53, .int .i64 (-1074), .int .i64 971] 85)).alloc (.cells #[.int .i64 0, .bool false, .int .u64 0, .int .i64 0] 25)) w.heap.size #[.int .i64 53, .int .i64 (-1074), .int .i64 971] 85 := (Blk.new w _ _).alloc _
  have K1 := Blk.new (w.alloc (.cells #[.int .i64 53, .int .i64 (-1074), .int .i64 971] 85)) #[.int .i64 0, .bool false, .int .u64 0, .int .i64 0] 25
  have pr : Below w.heap.size w ((w.alloc (.cells #[.int .i64 53, .int .i64 (-1074), .int .i64 971] 85)).alloc (.cells #[.int .i64 0, .bool false, .int .u64 0, .int .i64 0] 25)) := ((Below.refl _ _).alloc (Nat.le_refl _) _).alloc (by simp) _
  simp only [World.size_alloc] at K1
  have h1 : IntKind.i64.wrap 52 = 52 := by decide
  go_wp2_with (first
    | (go_at_call 94; refine (signBit_w _).mono ?_; rintro e w1 ⟨rfl, b1⟩; replace K0 := K0.below b1 K0.lt; replace K1 := K1.below b1 K1.lt; replace pr := bel pr b1; clear b1)
    | fail)
  have L0 := K0.lt
  have e0 : w1.cell? ⟨w.heap.size, 0, none⟩ = some (.int .i64 53) := K0.at 0
  have e1 : w1.cell? ⟨w.heap.size, 1, none⟩ = some (.int .i64 (-1074)) := K0.at 1
  have e2 : w1.cell? ⟨w.heap.size, 2, none⟩ = some (.int .i64 971) := K0.at 2
  go_region_held3 (fun x => x.cell? ⟨w.heap.size, 0, none⟩ = some (.int .i64 53) ∧ x.cell? ⟨w.heap.size, 1, none⟩ = some (.int .i64 (-1074)) ∧ x.cell? ⟨w.heap.size, 2, none⟩ = some (.int .i64 971)) (go_keep) (first
    | (go_at_call 95; refine (topField_w _).mono ?_; rintro e w2 ⟨rfl, b2⟩; have f0 := (b2.cell (p := ⟨w.heap.size, 0, none⟩) L0).trans e0; have f1 := (b2.cell (p := ⟨w.heap.size, 1, none⟩) L0).trans e1; have f2 := (b2.cell (p := ⟨w.heap.size, 2, none⟩) L0).trans e2)
    | fail)
  replace K0 := K0.below (below_undrew b2) K0.lt
  replace K1 := K1.below (below_undrew b2) K1.lt
  replace pr := bel_drew pr b2
  clear b2 e0 e1 e2 L0
  go_wp2_with (first
    | (go_at_call 96; refine (leastNormal_w _).mono ?_; rintro e w3 ⟨rfl, b3⟩; replace K0 := K0.below b3 K0.lt; replace K1 := K1.below b3 K1.lt; replace pr := bel pr b3; clear b3; have e0 : w3.cell? ⟨w.heap.size, 0, none⟩ = some (.int .i64 53) := K0.at 0; have e1 : w3.cell? ⟨w.heap.size, 1, none⟩ = some (.int .i64 (-1074)) := K0.at 1; have e2 : w3.cell? ⟨w.heap.size, 2, none⟩ = some (.int .i64 971) := K0.at 2; have c0 : w3.cell? ⟨w.heap.size + 1, 0, none⟩ = some (.int .i64 0) := K1.at 0; have c1 : w3.cell? ⟨w.heap.size + 1, 1, none⟩ = some (.bool false) := K1.at 1; have c2 : w3.cell? ⟨w.heap.size + 1, 2, none⟩ = some (.int .u64 0) := K1.at 2; have c3 : w3.cell? ⟨w.heap.size + 1, 3, none⟩ = some (.int .i64 0) := K1.at 3; have z0 := K1.free 0; have z1 := K1.free 1; have z2 := K1.free 2; have z3 := K1.free 3)
    | (go_at_call 95; refine (topField_w _).mono ?_; rintro e w3 ⟨rfl, b3⟩; replace K0 := K0.below b3 K0.lt; replace K1 := K1.below b3 K1.lt; replace pr := bel pr b3; clear b3; have e0 : w3.cell? ⟨w.heap.size, 0, none⟩ = some (.int .i64 53) := K0.at 0; have e1 : w3.cell? ⟨w.heap.size, 1, none⟩ = some (.int .i64 (-1074)) := K0.at 1; have e2 : w3.cell? ⟨w.heap.size, 2, none⟩ = some (.int .i64 971) := K0.at 2; have c0 : w3.cell? ⟨w.heap.size + 1, 0, none⟩ = some (.int .i64 0) := K1.at 0; have c1 : w3.cell? ⟨w.heap.size + 1, 1, none⟩ = some (.bool false) := K1.at 1; have c2 : w3.cell? ⟨w.heap.size + 1, 2, none⟩ = some (.int .u64 0) := K1.at 2; have c3 : w3.cell? ⟨w.heap.size + 1, 3, none⟩ = some (.int .i64 0) := K1.at 3; have z0 := K1.free 0; have z1 := K1.free 1; have z2 := K1.free 2; have z3 := K1.free 3)
    | fail)
  obtain ⟨F0, F1, F2, F3, FB⟩ := put4 (.int .i64 4) (.bool false) (.int .u64 0) (.int .i64 0) c0 c1 c2 c3
  exact bodyPost_ret (v := prt 4 false 0 0) (by simp [results, Try.results52, go_sem, F0, F1, F2, F3]) rfl ⟨rfl, FB _ _ (by omega) pr⟩
set_option maxRecDepth 100000 in
set_option maxHeartbeats 1600000 in
theorem split_w_inf (n d f : Int) (g : Bool) (hg : (bits .and .u64 n 9223372036854775808 != 0) = g) (hd : bits .and .u64 (n / 4503599627370496) 2047 = d) (hf : bits .and .u64 n 4503599627370495 = f) (d1 : d = 2047) (f1 : (f != 0) = false) (w : World) :
    Calls Try.prog 52 #[fmtW, .int .u64 n] w fun e w' => e = .returned (prt 3 g 0 0) ∧ Below w.heap.size w w' := by
  go_enter Try.func52, Try.ntmps52
  have K0 : Blk ((w.alloc (.cells #[.int .i64 53, .int .i64 (-1074), .int .i64 971] 85)).alloc (.cells #[.int .i64 0, .bool false, .int .u64 0, .int .i64 0] 25)) w.heap.size #[.int .i64 53, .int .i64 (-1074), .int .i64 971] 85 := (Blk.new w _ _).alloc _
  have K1 := Blk.new (w.alloc (.cells #[.int .i64 53, .int .i64 (-1074), .int .i64 971] 85)) #[.int .i64 0, .bool false, .int .u64 0, .int .i64 0] 25
  have pr : Below w.heap.size w ((w.alloc (.cells #[.int .i64 53, .int .i64 (-1074), .int .i64 971] 85)).alloc (.cells #[.int .i64 0, .bool false, .int .u64 0, .int .i64 0] 25)) := ((Below.refl _ _).alloc (Nat.le_refl _) _).alloc (by simp) _
  simp only [World.size_alloc] at K1
  have h1 : IntKind.i64.wrap 52 = 52 := by decide
  go_wp2_with (first
    | (go_at_call 94; refine (signBit_w _).mono ?_; rintro e w1 ⟨rfl, b1⟩; replace K0 := K0.below b1 K0.lt; replace K1 := K1.below b1 K1.lt; replace pr := bel pr b1; clear b1)
    | fail)
  have L0 := K0.lt
  have e0 : w1.cell? ⟨w.heap.size, 0, none⟩ = some (.int .i64 53) := K0.at 0
  have e1 : w1.cell? ⟨w.heap.size, 1, none⟩ = some (.int .i64 (-1074)) := K0.at 1
  have e2 : w1.cell? ⟨w.heap.size, 2, none⟩ = some (.int .i64 971) := K0.at 2
  go_region_held3 (fun x => x.cell? ⟨w.heap.size, 0, none⟩ = some (.int .i64 53) ∧ x.cell? ⟨w.heap.size, 1, none⟩ = some (.int .i64 (-1074)) ∧ x.cell? ⟨w.heap.size, 2, none⟩ = some (.int .i64 971)) (go_keep) (first
    | (go_at_call 95; refine (topField_w _).mono ?_; rintro e w2 ⟨rfl, b2⟩; have f0 := (b2.cell (p := ⟨w.heap.size, 0, none⟩) L0).trans e0; have f1 := (b2.cell (p := ⟨w.heap.size, 1, none⟩) L0).trans e1; have f2 := (b2.cell (p := ⟨w.heap.size, 2, none⟩) L0).trans e2)
    | fail)
  replace K0 := K0.below (below_undrew b2) K0.lt
  replace K1 := K1.below (below_undrew b2) K1.lt
  replace pr := bel_drew pr b2
  clear b2 e0 e1 e2 L0
  go_wp2_with (first
    | (go_at_call 96; refine (leastNormal_w _).mono ?_; rintro e w3 ⟨rfl, b3⟩; replace K0 := K0.below b3 K0.lt; replace K1 := K1.below b3 K1.lt; replace pr := bel pr b3; clear b3; have e0 : w3.cell? ⟨w.heap.size, 0, none⟩ = some (.int .i64 53) := K0.at 0; have e1 : w3.cell? ⟨w.heap.size, 1, none⟩ = some (.int .i64 (-1074)) := K0.at 1; have e2 : w3.cell? ⟨w.heap.size, 2, none⟩ = some (.int .i64 971) := K0.at 2; have c0 : w3.cell? ⟨w.heap.size + 1, 0, none⟩ = some (.int .i64 0) := K1.at 0; have c1 : w3.cell? ⟨w.heap.size + 1, 1, none⟩ = some (.bool false) := K1.at 1; have c2 : w3.cell? ⟨w.heap.size + 1, 2, none⟩ = some (.int .u64 0) := K1.at 2; have c3 : w3.cell? ⟨w.heap.size + 1, 3, none⟩ = some (.int .i64 0) := K1.at 3; have z0 := K1.free 0; have z1 := K1.free 1; have z2 := K1.free 2; have z3 := K1.free 3)
    | (go_at_call 95; refine (topField_w _).mono ?_; rintro e w3 ⟨rfl, b3⟩; replace K0 := K0.below b3 K0.lt; replace K1 := K1.below b3 K1.lt; replace pr := bel pr b3; clear b3; have e0 : w3.cell? ⟨w.heap.size, 0, none⟩ = some (.int .i64 53) := K0.at 0; have e1 : w3.cell? ⟨w.heap.size, 1, none⟩ = some (.int .i64 (-1074)) := K0.at 1; have e2 : w3.cell? ⟨w.heap.size, 2, none⟩ = some (.int .i64 971) := K0.at 2; have c0 : w3.cell? ⟨w.heap.size + 1, 0, none⟩ = some (.int .i64 0) := K1.at 0; have c1 : w3.cell? ⟨w.heap.size + 1, 1, none⟩ = some (.bool false) := K1.at 1; have c2 : w3.cell? ⟨w.heap.size + 1, 2, none⟩ = some (.int .u64 0) := K1.at 2; have c3 : w3.cell? ⟨w.heap.size + 1, 3, none⟩ = some (.int .i64 0) := K1.at 3; have z0 := K1.free 0; have z1 := K1.free 1; have z2 := K1.free 2; have z3 := K1.free 3)
    | fail)
  obtain ⟨F0, F1, F2, F3, FB⟩ := put4 (.int .i64 3) (.bool g) (.int .u64 0) (.int .i64 0) c0 c1 c2 c3
  exact bodyPost_ret (v := prt 3 g 0 0) (by simp [results, Try.results52, go_sem, F0, F1, F2, F3]) rfl ⟨rfl, FB _ _ (by omega) pr⟩
set_option maxRecDepth 100000 in
set_option maxHeartbeats 1600000 in
theorem split_w_small (n d f : Int) (g : Bool) (hg : (bits .and .u64 n 9223372036854775808 != 0) = g) (hd : bits .and .u64 (n / 4503599627370496) 2047 = d) (hf : bits .and .u64 n 4503599627370495 = f) (d1 : d = 0) (f1 : (f != 0) = true) (w : World) :
    Calls Try.prog 52 #[fmtW, .int .u64 n] w fun e w' => e = .returned (prt 1 g f (-1074)) ∧ Below w.heap.size w w' := by
  go_enter Try.func52, Try.ntmps52
  have K0 : Blk ((w.alloc (.cells #[.int .i64 53, .int .i64 (-1074), .int .i64 971] 85)).alloc (.cells #[.int .i64 0, .bool false, .int .u64 0, .int .i64 0] 25)) w.heap.size #[.int .i64 53, .int .i64 (-1074), .int .i64 971] 85 := (Blk.new w _ _).alloc _
  have K1 := Blk.new (w.alloc (.cells #[.int .i64 53, .int .i64 (-1074), .int .i64 971] 85)) #[.int .i64 0, .bool false, .int .u64 0, .int .i64 0] 25
  have pr : Below w.heap.size w ((w.alloc (.cells #[.int .i64 53, .int .i64 (-1074), .int .i64 971] 85)).alloc (.cells #[.int .i64 0, .bool false, .int .u64 0, .int .i64 0] 25)) := ((Below.refl _ _).alloc (Nat.le_refl _) _).alloc (by simp) _
  simp only [World.size_alloc] at K1
  have h1 : IntKind.i64.wrap 52 = 52 := by decide
  go_wp2_with (first
    | (go_at_call 94; refine (signBit_w _).mono ?_; rintro e w1 ⟨rfl, b1⟩; replace K0 := K0.below b1 K0.lt; replace K1 := K1.below b1 K1.lt; replace pr := bel pr b1; clear b1)
    | fail)
  have L0 := K0.lt
  have e0 : w1.cell? ⟨w.heap.size, 0, none⟩ = some (.int .i64 53) := K0.at 0
  have e1 : w1.cell? ⟨w.heap.size, 1, none⟩ = some (.int .i64 (-1074)) := K0.at 1
  have e2 : w1.cell? ⟨w.heap.size, 2, none⟩ = some (.int .i64 971) := K0.at 2
  go_region_held3 (fun x => x.cell? ⟨w.heap.size, 0, none⟩ = some (.int .i64 53) ∧ x.cell? ⟨w.heap.size, 1, none⟩ = some (.int .i64 (-1074)) ∧ x.cell? ⟨w.heap.size, 2, none⟩ = some (.int .i64 971)) (go_keep) (first
    | (go_at_call 95; refine (topField_w _).mono ?_; rintro e w2 ⟨rfl, b2⟩; have f0 := (b2.cell (p := ⟨w.heap.size, 0, none⟩) L0).trans e0; have f1 := (b2.cell (p := ⟨w.heap.size, 1, none⟩) L0).trans e1; have f2 := (b2.cell (p := ⟨w.heap.size, 2, none⟩) L0).trans e2)
    | fail)
  replace K0 := K0.below (below_undrew b2) K0.lt
  replace K1 := K1.below (below_undrew b2) K1.lt
  replace pr := bel_drew pr b2
  clear b2 e0 e1 e2 L0
  go_wp2_with (first
    | (go_at_call 96; refine (leastNormal_w _).mono ?_; rintro e w3 ⟨rfl, b3⟩; replace K0 := K0.below b3 K0.lt; replace K1 := K1.below b3 K1.lt; replace pr := bel pr b3; clear b3; have e0 : w3.cell? ⟨w.heap.size, 0, none⟩ = some (.int .i64 53) := K0.at 0; have e1 : w3.cell? ⟨w.heap.size, 1, none⟩ = some (.int .i64 (-1074)) := K0.at 1; have e2 : w3.cell? ⟨w.heap.size, 2, none⟩ = some (.int .i64 971) := K0.at 2; have c0 : w3.cell? ⟨w.heap.size + 1, 0, none⟩ = some (.int .i64 0) := K1.at 0; have c1 : w3.cell? ⟨w.heap.size + 1, 1, none⟩ = some (.bool false) := K1.at 1; have c2 : w3.cell? ⟨w.heap.size + 1, 2, none⟩ = some (.int .u64 0) := K1.at 2; have c3 : w3.cell? ⟨w.heap.size + 1, 3, none⟩ = some (.int .i64 0) := K1.at 3; have z0 := K1.free 0; have z1 := K1.free 1; have z2 := K1.free 2; have z3 := K1.free 3)
    | (go_at_call 95; refine (topField_w _).mono ?_; rintro e w3 ⟨rfl, b3⟩; replace K0 := K0.below b3 K0.lt; replace K1 := K1.below b3 K1.lt; replace pr := bel pr b3; clear b3; have e0 : w3.cell? ⟨w.heap.size, 0, none⟩ = some (.int .i64 53) := K0.at 0; have e1 : w3.cell? ⟨w.heap.size, 1, none⟩ = some (.int .i64 (-1074)) := K0.at 1; have e2 : w3.cell? ⟨w.heap.size, 2, none⟩ = some (.int .i64 971) := K0.at 2; have c0 : w3.cell? ⟨w.heap.size + 1, 0, none⟩ = some (.int .i64 0) := K1.at 0; have c1 : w3.cell? ⟨w.heap.size + 1, 1, none⟩ = some (.bool false) := K1.at 1; have c2 : w3.cell? ⟨w.heap.size + 1, 2, none⟩ = some (.int .u64 0) := K1.at 2; have c3 : w3.cell? ⟨w.heap.size + 1, 3, none⟩ = some (.int .i64 0) := K1.at 3; have z0 := K1.free 0; have z1 := K1.free 1; have z2 := K1.free 2; have z3 := K1.free 3)
    | fail)
  obtain ⟨F0, F1, F2, F3, FB⟩ := put4 (.int .i64 1) (.bool g) (.int .u64 f) (.int .i64 (-1074)) c0 c1 c2 c3
  exact bodyPost_ret (v := prt 1 g f (-1074)) (by simp [results, Try.results52, go_sem, F0, F1, F2, F3]) rfl ⟨rfl, FB _ _ (by omega) pr⟩
set_option maxRecDepth 100000 in
set_option maxHeartbeats 1600000 in
theorem split_w_nought (n d f : Int) (g : Bool) (hg : (bits .and .u64 n 9223372036854775808 != 0) = g) (hd : bits .and .u64 (n / 4503599627370496) 2047 = d) (hf : bits .and .u64 n 4503599627370495 = f) (d1 : d = 0) (f1 : (f != 0) = false) (w : World) :
    Calls Try.prog 52 #[fmtW, .int .u64 n] w fun e w' => e = .returned (prt 0 g 0 0) ∧ Below w.heap.size w w' := by
  go_enter Try.func52, Try.ntmps52
  have K0 : Blk ((w.alloc (.cells #[.int .i64 53, .int .i64 (-1074), .int .i64 971] 85)).alloc (.cells #[.int .i64 0, .bool false, .int .u64 0, .int .i64 0] 25)) w.heap.size #[.int .i64 53, .int .i64 (-1074), .int .i64 971] 85 := (Blk.new w _ _).alloc _
  have K1 := Blk.new (w.alloc (.cells #[.int .i64 53, .int .i64 (-1074), .int .i64 971] 85)) #[.int .i64 0, .bool false, .int .u64 0, .int .i64 0] 25
  have pr : Below w.heap.size w ((w.alloc (.cells #[.int .i64 53, .int .i64 (-1074), .int .i64 971] 85)).alloc (.cells #[.int .i64 0, .bool false, .int .u64 0, .int .i64 0] 25)) := ((Below.refl _ _).alloc (Nat.le_refl _) _).alloc (by simp) _
  simp only [World.size_alloc] at K1
  have h1 : IntKind.i64.wrap 52 = 52 := by decide
  go_wp2_with (first
    | (go_at_call 94; refine (signBit_w _).mono ?_; rintro e w1 ⟨rfl, b1⟩; replace K0 := K0.below b1 K0.lt; replace K1 := K1.below b1 K1.lt; replace pr := bel pr b1; clear b1)
    | fail)
  have L0 := K0.lt
  have e0 : w1.cell? ⟨w.heap.size, 0, none⟩ = some (.int .i64 53) := K0.at 0
  have e1 : w1.cell? ⟨w.heap.size, 1, none⟩ = some (.int .i64 (-1074)) := K0.at 1
  have e2 : w1.cell? ⟨w.heap.size, 2, none⟩ = some (.int .i64 971) := K0.at 2
  go_region_held3 (fun x => x.cell? ⟨w.heap.size, 0, none⟩ = some (.int .i64 53) ∧ x.cell? ⟨w.heap.size, 1, none⟩ = some (.int .i64 (-1074)) ∧ x.cell? ⟨w.heap.size, 2, none⟩ = some (.int .i64 971)) (go_keep) (first
    | (go_at_call 95; refine (topField_w _).mono ?_; rintro e w2 ⟨rfl, b2⟩; have f0 := (b2.cell (p := ⟨w.heap.size, 0, none⟩) L0).trans e0; have f1 := (b2.cell (p := ⟨w.heap.size, 1, none⟩) L0).trans e1; have f2 := (b2.cell (p := ⟨w.heap.size, 2, none⟩) L0).trans e2)
    | fail)
  replace K0 := K0.below (below_undrew b2) K0.lt
  replace K1 := K1.below (below_undrew b2) K1.lt
  replace pr := bel_drew pr b2
  clear b2 e0 e1 e2 L0
  go_wp2_with (first
    | (go_at_call 96; refine (leastNormal_w _).mono ?_; rintro e w3 ⟨rfl, b3⟩; replace K0 := K0.below b3 K0.lt; replace K1 := K1.below b3 K1.lt; replace pr := bel pr b3; clear b3; have e0 : w3.cell? ⟨w.heap.size, 0, none⟩ = some (.int .i64 53) := K0.at 0; have e1 : w3.cell? ⟨w.heap.size, 1, none⟩ = some (.int .i64 (-1074)) := K0.at 1; have e2 : w3.cell? ⟨w.heap.size, 2, none⟩ = some (.int .i64 971) := K0.at 2; have c0 : w3.cell? ⟨w.heap.size + 1, 0, none⟩ = some (.int .i64 0) := K1.at 0; have c1 : w3.cell? ⟨w.heap.size + 1, 1, none⟩ = some (.bool false) := K1.at 1; have c2 : w3.cell? ⟨w.heap.size + 1, 2, none⟩ = some (.int .u64 0) := K1.at 2; have c3 : w3.cell? ⟨w.heap.size + 1, 3, none⟩ = some (.int .i64 0) := K1.at 3; have z0 := K1.free 0; have z1 := K1.free 1; have z2 := K1.free 2; have z3 := K1.free 3)
    | (go_at_call 95; refine (topField_w _).mono ?_; rintro e w3 ⟨rfl, b3⟩; replace K0 := K0.below b3 K0.lt; replace K1 := K1.below b3 K1.lt; replace pr := bel pr b3; clear b3; have e0 : w3.cell? ⟨w.heap.size, 0, none⟩ = some (.int .i64 53) := K0.at 0; have e1 : w3.cell? ⟨w.heap.size, 1, none⟩ = some (.int .i64 (-1074)) := K0.at 1; have e2 : w3.cell? ⟨w.heap.size, 2, none⟩ = some (.int .i64 971) := K0.at 2; have c0 : w3.cell? ⟨w.heap.size + 1, 0, none⟩ = some (.int .i64 0) := K1.at 0; have c1 : w3.cell? ⟨w.heap.size + 1, 1, none⟩ = some (.bool false) := K1.at 1; have c2 : w3.cell? ⟨w.heap.size + 1, 2, none⟩ = some (.int .u64 0) := K1.at 2; have c3 : w3.cell? ⟨w.heap.size + 1, 3, none⟩ = some (.int .i64 0) := K1.at 3; have z0 := K1.free 0; have z1 := K1.free 1; have z2 := K1.free 2; have z3 := K1.free 3)
    | fail)
  obtain ⟨F0, F1, F2, F3, FB⟩ := put4 (.int .i64 0) (.bool g) (.int .u64 0) (.int .i64 0) c0 c1 c2 c3
  exact bodyPost_ret (v := prt 0 g 0 0) (by simp [results, Try.results52, go_sem, F0, F1, F2, F3]) rfl ⟨rfl, FB _ _ (by omega) pr⟩
set_option maxRecDepth 100000 in
set_option maxHeartbeats 1600000 in
theorem split_w_normal (n d f s : Int) (g : Bool) (hg : (bits .and .u64 n 9223372036854775808 != 0) = g) (hd : bits .and .u64 (n / 4503599627370496) 2047 = d) (hf : bits .and .u64 n 4503599627370495 = f) (d1 : (d != 0) = true) (d2 : (d == 2047) = false) (hs : bits .or .u64 f 4503599627370496 = s) (hx1 : IntKind.i64.wrap d = d) (hx2 : IntKind.i64.wrap (d - 1) = d - 1) (hx3 : IntKind.i64.wrap (d - 1 + -1074) = d - 1 + -1074) (w : World) :
    Calls Try.prog 52 #[fmtW, .int .u64 n] w fun e w' => e = .returned (prt 2 g s (d - 1 + -1074)) ∧ Below w.heap.size w w' := by
  go_enter Try.func52, Try.ntmps52
  have K0 : Blk ((w.alloc (.cells #[.int .i64 53, .int .i64 (-1074), .int .i64 971] 85)).alloc (.cells #[.int .i64 0, .bool false, .int .u64 0, .int .i64 0] 25)) w.heap.size #[.int .i64 53, .int .i64 (-1074), .int .i64 971] 85 := (Blk.new w _ _).alloc _
  have K1 := Blk.new (w.alloc (.cells #[.int .i64 53, .int .i64 (-1074), .int .i64 971] 85)) #[.int .i64 0, .bool false, .int .u64 0, .int .i64 0] 25
  have pr : Below w.heap.size w ((w.alloc (.cells #[.int .i64 53, .int .i64 (-1074), .int .i64 971] 85)).alloc (.cells #[.int .i64 0, .bool false, .int .u64 0, .int .i64 0] 25)) := ((Below.refl _ _).alloc (Nat.le_refl _) _).alloc (by simp) _
  simp only [World.size_alloc] at K1
  have h1 : IntKind.i64.wrap 52 = 52 := by decide
  go_wp2_with (first
    | (go_at_call 94; refine (signBit_w _).mono ?_; rintro e w1 ⟨rfl, b1⟩; replace K0 := K0.below b1 K0.lt; replace K1 := K1.below b1 K1.lt; replace pr := bel pr b1; clear b1)
    | fail)
  have L0 := K0.lt
  have e0 : w1.cell? ⟨w.heap.size, 0, none⟩ = some (.int .i64 53) := K0.at 0
  have e1 : w1.cell? ⟨w.heap.size, 1, none⟩ = some (.int .i64 (-1074)) := K0.at 1
  have e2 : w1.cell? ⟨w.heap.size, 2, none⟩ = some (.int .i64 971) := K0.at 2
  go_region_held3 (fun x => x.cell? ⟨w.heap.size, 0, none⟩ = some (.int .i64 53) ∧ x.cell? ⟨w.heap.size, 1, none⟩ = some (.int .i64 (-1074)) ∧ x.cell? ⟨w.heap.size, 2, none⟩ = some (.int .i64 971)) (go_keep) (first
    | (go_at_call 95; refine (topField_w _).mono ?_; rintro e w2 ⟨rfl, b2⟩; have f0 := (b2.cell (p := ⟨w.heap.size, 0, none⟩) L0).trans e0; have f1 := (b2.cell (p := ⟨w.heap.size, 1, none⟩) L0).trans e1; have f2 := (b2.cell (p := ⟨w.heap.size, 2, none⟩) L0).trans e2)
    | fail)
  replace K0 := K0.below (below_undrew b2) K0.lt
  replace K1 := K1.below (below_undrew b2) K1.lt
  replace pr := bel_drew pr b2
  clear b2 e0 e1 e2 L0
  go_wp2_with (first
    | (go_at_call 96; refine (leastNormal_w _).mono ?_; rintro e w3 ⟨rfl, b3⟩; replace K0 := K0.below b3 K0.lt; replace K1 := K1.below b3 K1.lt; replace pr := bel pr b3; clear b3; have e0 : w3.cell? ⟨w.heap.size, 0, none⟩ = some (.int .i64 53) := K0.at 0; have e1 : w3.cell? ⟨w.heap.size, 1, none⟩ = some (.int .i64 (-1074)) := K0.at 1; have e2 : w3.cell? ⟨w.heap.size, 2, none⟩ = some (.int .i64 971) := K0.at 2; have c0 : w3.cell? ⟨w.heap.size + 1, 0, none⟩ = some (.int .i64 0) := K1.at 0; have c1 : w3.cell? ⟨w.heap.size + 1, 1, none⟩ = some (.bool false) := K1.at 1; have c2 : w3.cell? ⟨w.heap.size + 1, 2, none⟩ = some (.int .u64 0) := K1.at 2; have c3 : w3.cell? ⟨w.heap.size + 1, 3, none⟩ = some (.int .i64 0) := K1.at 3; have z0 := K1.free 0; have z1 := K1.free 1; have z2 := K1.free 2; have z3 := K1.free 3)
    | (go_at_call 95; refine (topField_w _).mono ?_; rintro e w3 ⟨rfl, b3⟩; replace K0 := K0.below b3 K0.lt; replace K1 := K1.below b3 K1.lt; replace pr := bel pr b3; clear b3; have e0 : w3.cell? ⟨w.heap.size, 0, none⟩ = some (.int .i64 53) := K0.at 0; have e1 : w3.cell? ⟨w.heap.size, 1, none⟩ = some (.int .i64 (-1074)) := K0.at 1; have e2 : w3.cell? ⟨w.heap.size, 2, none⟩ = some (.int .i64 971) := K0.at 2; have c0 : w3.cell? ⟨w.heap.size + 1, 0, none⟩ = some (.int .i64 0) := K1.at 0; have c1 : w3.cell? ⟨w.heap.size + 1, 1, none⟩ = some (.bool false) := K1.at 1; have c2 : w3.cell? ⟨w.heap.size + 1, 2, none⟩ = some (.int .u64 0) := K1.at 2; have c3 : w3.cell? ⟨w.heap.size + 1, 3, none⟩ = some (.int .i64 0) := K1.at 3; have z0 := K1.free 0; have z1 := K1.free 1; have z2 := K1.free 2; have z3 := K1.free 3)
    | fail)
  have M0 := K0
  have M1 := K1
  go_region_held3 (fun x => x.cell? ⟨w.heap.size, 0, none⟩ = some (.int .i64 53) ∧ x.cell? ⟨w.heap.size, 1, none⟩ = some (.int .i64 (-1074)) ∧ x.cell? ⟨w.heap.size, 2, none⟩ = some (.int .i64 971)) (go_keep) (first
    | (go_at_call 96; refine (leastNormal_w _).mono ?_; rintro e w4 ⟨rfl, b4⟩; replace K0 := M0.below (below_undrew b4) M0.lt; replace K1 := M1.below (below_undrew b4) M1.lt; have e0 : w4.cell? ⟨w.heap.size, 0, none⟩ = some (.int .i64 53) := K0.at 0; have e1 : w4.cell? ⟨w.heap.size, 1, none⟩ = some (.int .i64 (-1074)) := K0.at 1; have e2 : w4.cell? ⟨w.heap.size, 2, none⟩ = some (.int .i64 971) := K0.at 2; have c0 : w4.cell? ⟨w.heap.size + 1, 0, none⟩ = some (.int .i64 0) := K1.at 0; have c1 : w4.cell? ⟨w.heap.size + 1, 1, none⟩ = some (.bool false) := K1.at 1; have c2 : w4.cell? ⟨w.heap.size + 1, 2, none⟩ = some (.int .u64 0) := K1.at 2; have c3 : w4.cell? ⟨w.heap.size + 1, 3, none⟩ = some (.int .i64 0) := K1.at 3; have z0 := K1.free 0; have z1 := K1.free 1; have z2 := K1.free 2; have z3 := K1.free 3)
    | fail)
  replace pr := bel_drew pr b4
  obtain ⟨F0, F1, F2, F3, FB⟩ := put4 (.int .i64 2) (.bool g) (.int .u64 s) (.int .i64 (d - 1 + -1074)) c0 c1 c2 c3
  go_wp2
  exact bodyPost_ret (v := prt 2 g s (d - 1 + -1074)) (by simp [results, Try.results52, go_sem, F0, F1, F2, F3]) rfl ⟨rfl, FB _ _ (by omega) pr⟩
set_option maxRecDepth 100000 in
set_option maxHeartbeats 1600000 in
theorem split_s_none (n d f : Int) (g : Bool) (hg : (bits .and .u64 n 2147483648 != 0) = g) (hd : bits .and .u64 (n / 8388608) 255 = d) (hf : bits .and .u64 n 8388607 = f) (d1 : d = 255) (f1 : (f != 0) = true) (w : World) :
    Calls Try.prog 52 #[fmtS, .int .u64 n] w fun e w' => e = .returned (prt 4 false 0 0) ∧ Below w.heap.size w w' := by
  go_enter Try.func52, Try.ntmps52
  have K0 : Blk ((w.alloc (.cells #[.int .i64 24, .int .i64 (-149), .int .i64 104] 85)).alloc (.cells #[.int .i64 0, .bool false, .int .u64 0, .int .i64 0] 25)) w.heap.size #[.int .i64 24, .int .i64 (-149), .int .i64 104] 85 := (Blk.new w _ _).alloc _
  have K1 := Blk.new (w.alloc (.cells #[.int .i64 24, .int .i64 (-149), .int .i64 104] 85)) #[.int .i64 0, .bool false, .int .u64 0, .int .i64 0] 25
  have pr : Below w.heap.size w ((w.alloc (.cells #[.int .i64 24, .int .i64 (-149), .int .i64 104] 85)).alloc (.cells #[.int .i64 0, .bool false, .int .u64 0, .int .i64 0] 25)) := ((Below.refl _ _).alloc (Nat.le_refl _) _).alloc (by simp) _
  simp only [World.size_alloc] at K1
  have h1 : IntKind.i64.wrap 23 = 23 := by decide
  go_wp2_with (first
    | (go_at_call 94; refine (signBit_s _).mono ?_; rintro e w1 ⟨rfl, b1⟩; replace K0 := K0.below b1 K0.lt; replace K1 := K1.below b1 K1.lt; replace pr := bel pr b1; clear b1)
    | fail)
  have L0 := K0.lt
  have e0 : w1.cell? ⟨w.heap.size, 0, none⟩ = some (.int .i64 24) := K0.at 0
  have e1 : w1.cell? ⟨w.heap.size, 1, none⟩ = some (.int .i64 (-149)) := K0.at 1
  have e2 : w1.cell? ⟨w.heap.size, 2, none⟩ = some (.int .i64 104) := K0.at 2
  go_region_held3 (fun x => x.cell? ⟨w.heap.size, 0, none⟩ = some (.int .i64 24) ∧ x.cell? ⟨w.heap.size, 1, none⟩ = some (.int .i64 (-149)) ∧ x.cell? ⟨w.heap.size, 2, none⟩ = some (.int .i64 104)) (go_keep) (first
    | (go_at_call 95; refine (topField_s _).mono ?_; rintro e w2 ⟨rfl, b2⟩; have f0 := (b2.cell (p := ⟨w.heap.size, 0, none⟩) L0).trans e0; have f1 := (b2.cell (p := ⟨w.heap.size, 1, none⟩) L0).trans e1; have f2 := (b2.cell (p := ⟨w.heap.size, 2, none⟩) L0).trans e2)
    | fail)
  replace K0 := K0.below (below_undrew b2) K0.lt
  replace K1 := K1.below (below_undrew b2) K1.lt
  replace pr := bel_drew pr b2
  clear b2 e0 e1 e2 L0
  go_wp2_with (first
    | (go_at_call 96; refine (leastNormal_s _).mono ?_; rintro e w3 ⟨rfl, b3⟩; replace K0 := K0.below b3 K0.lt; replace K1 := K1.below b3 K1.lt; replace pr := bel pr b3; clear b3; have e0 : w3.cell? ⟨w.heap.size, 0, none⟩ = some (.int .i64 24) := K0.at 0; have e1 : w3.cell? ⟨w.heap.size, 1, none⟩ = some (.int .i64 (-149)) := K0.at 1; have e2 : w3.cell? ⟨w.heap.size, 2, none⟩ = some (.int .i64 104) := K0.at 2; have c0 : w3.cell? ⟨w.heap.size + 1, 0, none⟩ = some (.int .i64 0) := K1.at 0; have c1 : w3.cell? ⟨w.heap.size + 1, 1, none⟩ = some (.bool false) := K1.at 1; have c2 : w3.cell? ⟨w.heap.size + 1, 2, none⟩ = some (.int .u64 0) := K1.at 2; have c3 : w3.cell? ⟨w.heap.size + 1, 3, none⟩ = some (.int .i64 0) := K1.at 3; have z0 := K1.free 0; have z1 := K1.free 1; have z2 := K1.free 2; have z3 := K1.free 3)
    | (go_at_call 95; refine (topField_s _).mono ?_; rintro e w3 ⟨rfl, b3⟩; replace K0 := K0.below b3 K0.lt; replace K1 := K1.below b3 K1.lt; replace pr := bel pr b3; clear b3; have e0 : w3.cell? ⟨w.heap.size, 0, none⟩ = some (.int .i64 24) := K0.at 0; have e1 : w3.cell? ⟨w.heap.size, 1, none⟩ = some (.int .i64 (-149)) := K0.at 1; have e2 : w3.cell? ⟨w.heap.size, 2, none⟩ = some (.int .i64 104) := K0.at 2; have c0 : w3.cell? ⟨w.heap.size + 1, 0, none⟩ = some (.int .i64 0) := K1.at 0; have c1 : w3.cell? ⟨w.heap.size + 1, 1, none⟩ = some (.bool false) := K1.at 1; have c2 : w3.cell? ⟨w.heap.size + 1, 2, none⟩ = some (.int .u64 0) := K1.at 2; have c3 : w3.cell? ⟨w.heap.size + 1, 3, none⟩ = some (.int .i64 0) := K1.at 3; have z0 := K1.free 0; have z1 := K1.free 1; have z2 := K1.free 2; have z3 := K1.free 3)
    | fail)
  obtain ⟨F0, F1, F2, F3, FB⟩ := put4 (.int .i64 4) (.bool false) (.int .u64 0) (.int .i64 0) c0 c1 c2 c3
  exact bodyPost_ret (v := prt 4 false 0 0) (by simp [results, Try.results52, go_sem, F0, F1, F2, F3]) rfl ⟨rfl, FB _ _ (by omega) pr⟩
set_option maxRecDepth 100000 in
set_option maxHeartbeats 1600000 in
theorem split_s_inf (n d f : Int) (g : Bool) (hg : (bits .and .u64 n 2147483648 != 0) = g) (hd : bits .and .u64 (n / 8388608) 255 = d) (hf : bits .and .u64 n 8388607 = f) (d1 : d = 255) (f1 : (f != 0) = false) (w : World) :
    Calls Try.prog 52 #[fmtS, .int .u64 n] w fun e w' => e = .returned (prt 3 g 0 0) ∧ Below w.heap.size w w' := by
  go_enter Try.func52, Try.ntmps52
  have K0 : Blk ((w.alloc (.cells #[.int .i64 24, .int .i64 (-149), .int .i64 104] 85)).alloc (.cells #[.int .i64 0, .bool false, .int .u64 0, .int .i64 0] 25)) w.heap.size #[.int .i64 24, .int .i64 (-149), .int .i64 104] 85 := (Blk.new w _ _).alloc _
  have K1 := Blk.new (w.alloc (.cells #[.int .i64 24, .int .i64 (-149), .int .i64 104] 85)) #[.int .i64 0, .bool false, .int .u64 0, .int .i64 0] 25
  have pr : Below w.heap.size w ((w.alloc (.cells #[.int .i64 24, .int .i64 (-149), .int .i64 104] 85)).alloc (.cells #[.int .i64 0, .bool false, .int .u64 0, .int .i64 0] 25)) := ((Below.refl _ _).alloc (Nat.le_refl _) _).alloc (by simp) _
  simp only [World.size_alloc] at K1
  have h1 : IntKind.i64.wrap 23 = 23 := by decide
  go_wp2_with (first
    | (go_at_call 94; refine (signBit_s _).mono ?_; rintro e w1 ⟨rfl, b1⟩; replace K0 := K0.below b1 K0.lt; replace K1 := K1.below b1 K1.lt; replace pr := bel pr b1; clear b1)
    | fail)
  have L0 := K0.lt
  have e0 : w1.cell? ⟨w.heap.size, 0, none⟩ = some (.int .i64 24) := K0.at 0
  have e1 : w1.cell? ⟨w.heap.size, 1, none⟩ = some (.int .i64 (-149)) := K0.at 1
  have e2 : w1.cell? ⟨w.heap.size, 2, none⟩ = some (.int .i64 104) := K0.at 2
  go_region_held3 (fun x => x.cell? ⟨w.heap.size, 0, none⟩ = some (.int .i64 24) ∧ x.cell? ⟨w.heap.size, 1, none⟩ = some (.int .i64 (-149)) ∧ x.cell? ⟨w.heap.size, 2, none⟩ = some (.int .i64 104)) (go_keep) (first
    | (go_at_call 95; refine (topField_s _).mono ?_; rintro e w2 ⟨rfl, b2⟩; have f0 := (b2.cell (p := ⟨w.heap.size, 0, none⟩) L0).trans e0; have f1 := (b2.cell (p := ⟨w.heap.size, 1, none⟩) L0).trans e1; have f2 := (b2.cell (p := ⟨w.heap.size, 2, none⟩) L0).trans e2)
    | fail)
  replace K0 := K0.below (below_undrew b2) K0.lt
  replace K1 := K1.below (below_undrew b2) K1.lt
  replace pr := bel_drew pr b2
  clear b2 e0 e1 e2 L0
  go_wp2_with (first
    | (go_at_call 96; refine (leastNormal_s _).mono ?_; rintro e w3 ⟨rfl, b3⟩; replace K0 := K0.below b3 K0.lt; replace K1 := K1.below b3 K1.lt; replace pr := bel pr b3; clear b3; have e0 : w3.cell? ⟨w.heap.size, 0, none⟩ = some (.int .i64 24) := K0.at 0; have e1 : w3.cell? ⟨w.heap.size, 1, none⟩ = some (.int .i64 (-149)) := K0.at 1; have e2 : w3.cell? ⟨w.heap.size, 2, none⟩ = some (.int .i64 104) := K0.at 2; have c0 : w3.cell? ⟨w.heap.size + 1, 0, none⟩ = some (.int .i64 0) := K1.at 0; have c1 : w3.cell? ⟨w.heap.size + 1, 1, none⟩ = some (.bool false) := K1.at 1; have c2 : w3.cell? ⟨w.heap.size + 1, 2, none⟩ = some (.int .u64 0) := K1.at 2; have c3 : w3.cell? ⟨w.heap.size + 1, 3, none⟩ = some (.int .i64 0) := K1.at 3; have z0 := K1.free 0; have z1 := K1.free 1; have z2 := K1.free 2; have z3 := K1.free 3)
    | (go_at_call 95; refine (topField_s _).mono ?_; rintro e w3 ⟨rfl, b3⟩; replace K0 := K0.below b3 K0.lt; replace K1 := K1.below b3 K1.lt; replace pr := bel pr b3; clear b3; have e0 : w3.cell? ⟨w.heap.size, 0, none⟩ = some (.int .i64 24) := K0.at 0; have e1 : w3.cell? ⟨w.heap.size, 1, none⟩ = some (.int .i64 (-149)) := K0.at 1; have e2 : w3.cell? ⟨w.heap.size, 2, none⟩ = some (.int .i64 104) := K0.at 2; have c0 : w3.cell? ⟨w.heap.size + 1, 0, none⟩ = some (.int .i64 0) := K1.at 0; have c1 : w3.cell? ⟨w.heap.size + 1, 1, none⟩ = some (.bool false) := K1.at 1; have c2 : w3.cell? ⟨w.heap.size + 1, 2, none⟩ = some (.int .u64 0) := K1.at 2; have c3 : w3.cell? ⟨w.heap.size + 1, 3, none⟩ = some (.int .i64 0) := K1.at 3; have z0 := K1.free 0; have z1 := K1.free 1; have z2 := K1.free 2; have z3 := K1.free 3)
    | fail)
  obtain ⟨F0, F1, F2, F3, FB⟩ := put4 (.int .i64 3) (.bool g) (.int .u64 0) (.int .i64 0) c0 c1 c2 c3
  exact bodyPost_ret (v := prt 3 g 0 0) (by simp [results, Try.results52, go_sem, F0, F1, F2, F3]) rfl ⟨rfl, FB _ _ (by omega) pr⟩
set_option maxRecDepth 100000 in
set_option maxHeartbeats 1600000 in
theorem split_s_small (n d f : Int) (g : Bool) (hg : (bits .and .u64 n 2147483648 != 0) = g) (hd : bits .and .u64 (n / 8388608) 255 = d) (hf : bits .and .u64 n 8388607 = f) (d1 : d = 0) (f1 : (f != 0) = true) (w : World) :
    Calls Try.prog 52 #[fmtS, .int .u64 n] w fun e w' => e = .returned (prt 1 g f (-149)) ∧ Below w.heap.size w w' := by
  go_enter Try.func52, Try.ntmps52
  have K0 : Blk ((w.alloc (.cells #[.int .i64 24, .int .i64 (-149), .int .i64 104] 85)).alloc (.cells #[.int .i64 0, .bool false, .int .u64 0, .int .i64 0] 25)) w.heap.size #[.int .i64 24, .int .i64 (-149), .int .i64 104] 85 := (Blk.new w _ _).alloc _
  have K1 := Blk.new (w.alloc (.cells #[.int .i64 24, .int .i64 (-149), .int .i64 104] 85)) #[.int .i64 0, .bool false, .int .u64 0, .int .i64 0] 25
  have pr : Below w.heap.size w ((w.alloc (.cells #[.int .i64 24, .int .i64 (-149), .int .i64 104] 85)).alloc (.cells #[.int .i64 0, .bool false, .int .u64 0, .int .i64 0] 25)) := ((Below.refl _ _).alloc (Nat.le_refl _) _).alloc (by simp) _
  simp only [World.size_alloc] at K1
  have h1 : IntKind.i64.wrap 23 = 23 := by decide
  go_wp2_with (first
    | (go_at_call 94; refine (signBit_s _).mono ?_; rintro e w1 ⟨rfl, b1⟩; replace K0 := K0.below b1 K0.lt; replace K1 := K1.below b1 K1.lt; replace pr := bel pr b1; clear b1)
    | fail)
  have L0 := K0.lt
  have e0 : w1.cell? ⟨w.heap.size, 0, none⟩ = some (.int .i64 24) := K0.at 0
  have e1 : w1.cell? ⟨w.heap.size, 1, none⟩ = some (.int .i64 (-149)) := K0.at 1
  have e2 : w1.cell? ⟨w.heap.size, 2, none⟩ = some (.int .i64 104) := K0.at 2
  go_region_held3 (fun x => x.cell? ⟨w.heap.size, 0, none⟩ = some (.int .i64 24) ∧ x.cell? ⟨w.heap.size, 1, none⟩ = some (.int .i64 (-149)) ∧ x.cell? ⟨w.heap.size, 2, none⟩ = some (.int .i64 104)) (go_keep) (first
    | (go_at_call 95; refine (topField_s _).mono ?_; rintro e w2 ⟨rfl, b2⟩; have f0 := (b2.cell (p := ⟨w.heap.size, 0, none⟩) L0).trans e0; have f1 := (b2.cell (p := ⟨w.heap.size, 1, none⟩) L0).trans e1; have f2 := (b2.cell (p := ⟨w.heap.size, 2, none⟩) L0).trans e2)
    | fail)
  replace K0 := K0.below (below_undrew b2) K0.lt
  replace K1 := K1.below (below_undrew b2) K1.lt
  replace pr := bel_drew pr b2
  clear b2 e0 e1 e2 L0
  go_wp2_with (first
    | (go_at_call 96; refine (leastNormal_s _).mono ?_; rintro e w3 ⟨rfl, b3⟩; replace K0 := K0.below b3 K0.lt; replace K1 := K1.below b3 K1.lt; replace pr := bel pr b3; clear b3; have e0 : w3.cell? ⟨w.heap.size, 0, none⟩ = some (.int .i64 24) := K0.at 0; have e1 : w3.cell? ⟨w.heap.size, 1, none⟩ = some (.int .i64 (-149)) := K0.at 1; have e2 : w3.cell? ⟨w.heap.size, 2, none⟩ = some (.int .i64 104) := K0.at 2; have c0 : w3.cell? ⟨w.heap.size + 1, 0, none⟩ = some (.int .i64 0) := K1.at 0; have c1 : w3.cell? ⟨w.heap.size + 1, 1, none⟩ = some (.bool false) := K1.at 1; have c2 : w3.cell? ⟨w.heap.size + 1, 2, none⟩ = some (.int .u64 0) := K1.at 2; have c3 : w3.cell? ⟨w.heap.size + 1, 3, none⟩ = some (.int .i64 0) := K1.at 3; have z0 := K1.free 0; have z1 := K1.free 1; have z2 := K1.free 2; have z3 := K1.free 3)
    | (go_at_call 95; refine (topField_s _).mono ?_; rintro e w3 ⟨rfl, b3⟩; replace K0 := K0.below b3 K0.lt; replace K1 := K1.below b3 K1.lt; replace pr := bel pr b3; clear b3; have e0 : w3.cell? ⟨w.heap.size, 0, none⟩ = some (.int .i64 24) := K0.at 0; have e1 : w3.cell? ⟨w.heap.size, 1, none⟩ = some (.int .i64 (-149)) := K0.at 1; have e2 : w3.cell? ⟨w.heap.size, 2, none⟩ = some (.int .i64 104) := K0.at 2; have c0 : w3.cell? ⟨w.heap.size + 1, 0, none⟩ = some (.int .i64 0) := K1.at 0; have c1 : w3.cell? ⟨w.heap.size + 1, 1, none⟩ = some (.bool false) := K1.at 1; have c2 : w3.cell? ⟨w.heap.size + 1, 2, none⟩ = some (.int .u64 0) := K1.at 2; have c3 : w3.cell? ⟨w.heap.size + 1, 3, none⟩ = some (.int .i64 0) := K1.at 3; have z0 := K1.free 0; have z1 := K1.free 1; have z2 := K1.free 2; have z3 := K1.free 3)
    | fail)
  obtain ⟨F0, F1, F2, F3, FB⟩ := put4 (.int .i64 1) (.bool g) (.int .u64 f) (.int .i64 (-149)) c0 c1 c2 c3
  exact bodyPost_ret (v := prt 1 g f (-149)) (by simp [results, Try.results52, go_sem, F0, F1, F2, F3]) rfl ⟨rfl, FB _ _ (by omega) pr⟩
set_option maxRecDepth 100000 in
set_option maxHeartbeats 1600000 in
theorem split_s_nought (n d f : Int) (g : Bool) (hg : (bits .and .u64 n 2147483648 != 0) = g) (hd : bits .and .u64 (n / 8388608) 255 = d) (hf : bits .and .u64 n 8388607 = f) (d1 : d = 0) (f1 : (f != 0) = false) (w : World) :
    Calls Try.prog 52 #[fmtS, .int .u64 n] w fun e w' => e = .returned (prt 0 g 0 0) ∧ Below w.heap.size w w' := by
  go_enter Try.func52, Try.ntmps52
  have K0 : Blk ((w.alloc (.cells #[.int .i64 24, .int .i64 (-149), .int .i64 104] 85)).alloc (.cells #[.int .i64 0, .bool false, .int .u64 0, .int .i64 0] 25)) w.heap.size #[.int .i64 24, .int .i64 (-149), .int .i64 104] 85 := (Blk.new w _ _).alloc _
  have K1 := Blk.new (w.alloc (.cells #[.int .i64 24, .int .i64 (-149), .int .i64 104] 85)) #[.int .i64 0, .bool false, .int .u64 0, .int .i64 0] 25
  have pr : Below w.heap.size w ((w.alloc (.cells #[.int .i64 24, .int .i64 (-149), .int .i64 104] 85)).alloc (.cells #[.int .i64 0, .bool false, .int .u64 0, .int .i64 0] 25)) := ((Below.refl _ _).alloc (Nat.le_refl _) _).alloc (by simp) _
  simp only [World.size_alloc] at K1
  have h1 : IntKind.i64.wrap 23 = 23 := by decide
  go_wp2_with (first
    | (go_at_call 94; refine (signBit_s _).mono ?_; rintro e w1 ⟨rfl, b1⟩; replace K0 := K0.below b1 K0.lt; replace K1 := K1.below b1 K1.lt; replace pr := bel pr b1; clear b1)
    | fail)
  have L0 := K0.lt
  have e0 : w1.cell? ⟨w.heap.size, 0, none⟩ = some (.int .i64 24) := K0.at 0
  have e1 : w1.cell? ⟨w.heap.size, 1, none⟩ = some (.int .i64 (-149)) := K0.at 1
  have e2 : w1.cell? ⟨w.heap.size, 2, none⟩ = some (.int .i64 104) := K0.at 2
  go_region_held3 (fun x => x.cell? ⟨w.heap.size, 0, none⟩ = some (.int .i64 24) ∧ x.cell? ⟨w.heap.size, 1, none⟩ = some (.int .i64 (-149)) ∧ x.cell? ⟨w.heap.size, 2, none⟩ = some (.int .i64 104)) (go_keep) (first
    | (go_at_call 95; refine (topField_s _).mono ?_; rintro e w2 ⟨rfl, b2⟩; have f0 := (b2.cell (p := ⟨w.heap.size, 0, none⟩) L0).trans e0; have f1 := (b2.cell (p := ⟨w.heap.size, 1, none⟩) L0).trans e1; have f2 := (b2.cell (p := ⟨w.heap.size, 2, none⟩) L0).trans e2)
    | fail)
  replace K0 := K0.below (below_undrew b2) K0.lt
  replace K1 := K1.below (below_undrew b2) K1.lt
  replace pr := bel_drew pr b2
  clear b2 e0 e1 e2 L0
  go_wp2_with (first
    | (go_at_call 96; refine (leastNormal_s _).mono ?_; rintro e w3 ⟨rfl, b3⟩; replace K0 := K0.below b3 K0.lt; replace K1 := K1.below b3 K1.lt; replace pr := bel pr b3; clear b3; have e0 : w3.cell? ⟨w.heap.size, 0, none⟩ = some (.int .i64 24) := K0.at 0; have e1 : w3.cell? ⟨w.heap.size, 1, none⟩ = some (.int .i64 (-149)) := K0.at 1; have e2 : w3.cell? ⟨w.heap.size, 2, none⟩ = some (.int .i64 104) := K0.at 2; have c0 : w3.cell? ⟨w.heap.size + 1, 0, none⟩ = some (.int .i64 0) := K1.at 0; have c1 : w3.cell? ⟨w.heap.size + 1, 1, none⟩ = some (.bool false) := K1.at 1; have c2 : w3.cell? ⟨w.heap.size + 1, 2, none⟩ = some (.int .u64 0) := K1.at 2; have c3 : w3.cell? ⟨w.heap.size + 1, 3, none⟩ = some (.int .i64 0) := K1.at 3; have z0 := K1.free 0; have z1 := K1.free 1; have z2 := K1.free 2; have z3 := K1.free 3)
    | (go_at_call 95; refine (topField_s _).mono ?_; rintro e w3 ⟨rfl, b3⟩; replace K0 := K0.below b3 K0.lt; replace K1 := K1.below b3 K1.lt; replace pr := bel pr b3; clear b3; have e0 : w3.cell? ⟨w.heap.size, 0, none⟩ = some (.int .i64 24) := K0.at 0; have e1 : w3.cell? ⟨w.heap.size, 1, none⟩ = some (.int .i64 (-149)) := K0.at 1; have e2 : w3.cell? ⟨w.heap.size, 2, none⟩ = some (.int .i64 104) := K0.at 2; have c0 : w3.cell? ⟨w.heap.size + 1, 0, none⟩ = some (.int .i64 0) := K1.at 0; have c1 : w3.cell? ⟨w.heap.size + 1, 1, none⟩ = some (.bool false) := K1.at 1; have c2 : w3.cell? ⟨w.heap.size + 1, 2, none⟩ = some (.int .u64 0) := K1.at 2; have c3 : w3.cell? ⟨w.heap.size + 1, 3, none⟩ = some (.int .i64 0) := K1.at 3; have z0 := K1.free 0; have z1 := K1.free 1; have z2 := K1.free 2; have z3 := K1.free 3)
    | fail)
  obtain ⟨F0, F1, F2, F3, FB⟩ := put4 (.int .i64 0) (.bool g) (.int .u64 0) (.int .i64 0) c0 c1 c2 c3
  exact bodyPost_ret (v := prt 0 g 0 0) (by simp [results, Try.results52, go_sem, F0, F1, F2, F3]) rfl ⟨rfl, FB _ _ (by omega) pr⟩
set_option maxRecDepth 100000 in
set_option maxHeartbeats 1600000 in
theorem split_s_normal (n d f s : Int) (g : Bool) (hg : (bits .and .u64 n 2147483648 != 0) = g) (hd : bits .and .u64 (n / 8388608) 255 = d) (hf : bits .and .u64 n 8388607 = f) (d1 : (d != 0) = true) (d2 : (d == 255) = false) (hs : bits .or .u64 f 8388608 = s) (hx1 : IntKind.i64.wrap d = d) (hx2 : IntKind.i64.wrap (d - 1) = d - 1) (hx3 : IntKind.i64.wrap (d - 1 + -149) = d - 1 + -149) (w : World) :
    Calls Try.prog 52 #[fmtS, .int .u64 n] w fun e w' => e = .returned (prt 2 g s (d - 1 + -149)) ∧ Below w.heap.size w w' := by
  go_enter Try.func52, Try.ntmps52
  have K0 : Blk ((w.alloc (.cells #[.int .i64 24, .int .i64 (-149), .int .i64 104] 85)).alloc (.cells #[.int .i64 0, .bool false, .int .u64 0, .int .i64 0] 25)) w.heap.size #[.int .i64 24, .int .i64 (-149), .int .i64 104] 85 := (Blk.new w _ _).alloc _
  have K1 := Blk.new (w.alloc (.cells #[.int .i64 24, .int .i64 (-149), .int .i64 104] 85)) #[.int .i64 0, .bool false, .int .u64 0, .int .i64 0] 25
  have pr : Below w.heap.size w ((w.alloc (.cells #[.int .i64 24, .int .i64 (-149), .int .i64 104] 85)).alloc (.cells #[.int .i64 0, .bool false, .int .u64 0, .int .i64 0] 25)) := ((Below.refl _ _).alloc (Nat.le_refl _) _).alloc (by simp) _
  simp only [World.size_alloc] at K1
  have h1 : IntKind.i64.wrap 23 = 23 := by decide
  go_wp2_with (first
    | (go_at_call 94; refine (signBit_s _).mono ?_; rintro e w1 ⟨rfl, b1⟩; replace K0 := K0.below b1 K0.lt; replace K1 := K1.below b1 K1.lt; replace pr := bel pr b1; clear b1)
    | fail)
  have L0 := K0.lt
  have e0 : w1.cell? ⟨w.heap.size, 0, none⟩ = some (.int .i64 24) := K0.at 0
  have e1 : w1.cell? ⟨w.heap.size, 1, none⟩ = some (.int .i64 (-149)) := K0.at 1
  have e2 : w1.cell? ⟨w.heap.size, 2, none⟩ = some (.int .i64 104) := K0.at 2
  go_region_held3 (fun x => x.cell? ⟨w.heap.size, 0, none⟩ = some (.int .i64 24) ∧ x.cell? ⟨w.heap.size, 1, none⟩ = some (.int .i64 (-149)) ∧ x.cell? ⟨w.heap.size, 2, none⟩ = some (.int .i64 104)) (go_keep) (first
    | (go_at_call 95; refine (topField_s _).mono ?_; rintro e w2 ⟨rfl, b2⟩; have f0 := (b2.cell (p := ⟨w.heap.size, 0, none⟩) L0).trans e0; have f1 := (b2.cell (p := ⟨w.heap.size, 1, none⟩) L0).trans e1; have f2 := (b2.cell (p := ⟨w.heap.size, 2, none⟩) L0).trans e2)
    | fail)
  replace K0 := K0.below (below_undrew b2) K0.lt
  replace K1 := K1.below (below_undrew b2) K1.lt
  replace pr := bel_drew pr b2
  clear b2 e0 e1 e2 L0
  go_wp2_with (first
    | (go_at_call 96; refine (leastNormal_s _).mono ?_; rintro e w3 ⟨rfl, b3⟩; replace K0 := K0.below b3 K0.lt; replace K1 := K1.below b3 K1.lt; replace pr := bel pr b3; clear b3; have e0 : w3.cell? ⟨w.heap.size, 0, none⟩ = some (.int .i64 24) := K0.at 0; have e1 : w3.cell? ⟨w.heap.size, 1, none⟩ = some (.int .i64 (-149)) := K0.at 1; have e2 : w3.cell? ⟨w.heap.size, 2, none⟩ = some (.int .i64 104) := K0.at 2; have c0 : w3.cell? ⟨w.heap.size + 1, 0, none⟩ = some (.int .i64 0) := K1.at 0; have c1 : w3.cell? ⟨w.heap.size + 1, 1, none⟩ = some (.bool false) := K1.at 1; have c2 : w3.cell? ⟨w.heap.size + 1, 2, none⟩ = some (.int .u64 0) := K1.at 2; have c3 : w3.cell? ⟨w.heap.size + 1, 3, none⟩ = some (.int .i64 0) := K1.at 3; have z0 := K1.free 0; have z1 := K1.free 1; have z2 := K1.free 2; have z3 := K1.free 3)
    | (go_at_call 95; refine (topField_s _).mono ?_; rintro e w3 ⟨rfl, b3⟩; replace K0 := K0.below b3 K0.lt; replace K1 := K1.below b3 K1.lt; replace pr := bel pr b3; clear b3; have e0 : w3.cell? ⟨w.heap.size, 0, none⟩ = some (.int .i64 24) := K0.at 0; have e1 : w3.cell? ⟨w.heap.size, 1, none⟩ = some (.int .i64 (-149)) := K0.at 1; have e2 : w3.cell? ⟨w.heap.size, 2, none⟩ = some (.int .i64 104) := K0.at 2; have c0 : w3.cell? ⟨w.heap.size + 1, 0, none⟩ = some (.int .i64 0) := K1.at 0; have c1 : w3.cell? ⟨w.heap.size + 1, 1, none⟩ = some (.bool false) := K1.at 1; have c2 : w3.cell? ⟨w.heap.size + 1, 2, none⟩ = some (.int .u64 0) := K1.at 2; have c3 : w3.cell? ⟨w.heap.size + 1, 3, none⟩ = some (.int .i64 0) := K1.at 3; have z0 := K1.free 0; have z1 := K1.free 1; have z2 := K1.free 2; have z3 := K1.free 3)
    | fail)
  have M0 := K0
  have M1 := K1
  go_region_held3 (fun x => x.cell? ⟨w.heap.size, 0, none⟩ = some (.int .i64 24) ∧ x.cell? ⟨w.heap.size, 1, none⟩ = some (.int .i64 (-149)) ∧ x.cell? ⟨w.heap.size, 2, none⟩ = some (.int .i64 104)) (go_keep) (first
    | (go_at_call 96; refine (leastNormal_s _).mono ?_; rintro e w4 ⟨rfl, b4⟩; replace K0 := M0.below (below_undrew b4) M0.lt; replace K1 := M1.below (below_undrew b4) M1.lt; have e0 : w4.cell? ⟨w.heap.size, 0, none⟩ = some (.int .i64 24) := K0.at 0; have e1 : w4.cell? ⟨w.heap.size, 1, none⟩ = some (.int .i64 (-149)) := K0.at 1; have e2 : w4.cell? ⟨w.heap.size, 2, none⟩ = some (.int .i64 104) := K0.at 2; have c0 : w4.cell? ⟨w.heap.size + 1, 0, none⟩ = some (.int .i64 0) := K1.at 0; have c1 : w4.cell? ⟨w.heap.size + 1, 1, none⟩ = some (.bool false) := K1.at 1; have c2 : w4.cell? ⟨w.heap.size + 1, 2, none⟩ = some (.int .u64 0) := K1.at 2; have c3 : w4.cell? ⟨w.heap.size + 1, 3, none⟩ = some (.int .i64 0) := K1.at 3; have z0 := K1.free 0; have z1 := K1.free 1; have z2 := K1.free 2; have z3 := K1.free 3)
    | fail)
  replace pr := bel_drew pr b4
  obtain ⟨F0, F1, F2, F3, FB⟩ := put4 (.int .i64 2) (.bool g) (.int .u64 s) (.int .i64 (d - 1 + -149)) c0 c1 c2 c3
  go_wp2
  exact bodyPost_ret (v := prt 2 g s (d - 1 + -149)) (by simp [results, Try.results52, go_sem, F0, F1, F2, F3]) rfl ⟨rfl, FB _ _ (by omega) pr⟩
end Go.Proofs.Ytlngkonmalallaa

namespace Go.Proofs.Ytlngkonmalallaa
open Go.RowKit Tn

/-- The reference's size of floats. -/
abbrev szW : Value := .agg #[.int .i64 53, .int .i64 (-1074), .int .i64 971, .int .i64 52]
set_option maxRecDepth 100000 in
set_option maxHeartbeats 1600000 in
theorem Wide_any (w : World) : Calls Try.prog 11 #[] w fun e w' => e = .returned szW ∧ Below w.heap.size w w' := by
  go_enter Try.func11, Try.ntmps11
  go_wp2
  refine bodyPost_ret (v := szW) (by simp [results, Try.results11, go_sem]) rfl ⟨rfl, ?_⟩
  exact (Below.refl _ _).alloc (Nat.le_refl _) _
set_option maxRecDepth 100000 in
set_option maxHeartbeats 1600000 in
theorem top_w (w : World) : Calls Try.prog 54 #[szW] w fun e w' => e = .returned (.int .u64 2047) ∧ Below w.heap.size w w' := by
  go_enter Try.func54, Try.ntmps54
  go_wp2
  go_ret
  exact ⟨rfl, (Below.refl _ _).alloc (Nat.le_refl _) _⟩
set_option maxRecDepth 100000 in
set_option maxHeartbeats 1600000 in
theorem sign_w (w : World) : Calls Try.prog 97 #[szW] w fun e w' => e = .returned (.int .i64 63) ∧ Below w.heap.size w w' := by
  go_enter Try.func97, Try.ntmps97
  go_wp2
  go_ret
  exact ⟨rfl, (Below.refl _ _).alloc (Nat.le_refl _) _⟩
set_option maxRecDepth 100000 in
set_option maxHeartbeats 1600000 in
theorem Neg_w (n : Int) (g : Bool) (h : (bits .and .u64 (n / 9223372036854775808) 1 == 1) = g) (w : World) : Calls Try.prog 55 #[szW, .int .u64 n] w fun e w' => e = .returned (.bool g) ∧ Below w.heap.size w w' := by
  go_enter Try.func55, Try.ntmps55
  have K0 := Blk.new w #[.int .i64 53, .int .i64 (-1074), .int .i64 971, .int .i64 52] 31
  have pr : Below w.heap.size w (w.alloc (.cells #[.int .i64 53, .int .i64 (-1074), .int .i64 971, .int .i64 52] 31)) := (Below.refl _ _).alloc (Nat.le_refl _) _
  go_wp2_with (first
    | (go_at_call 97; refine (sign_w _).mono ?_; rintro e w1 ⟨rfl, b1⟩; replace K0 := K0.below b1 K0.lt; replace pr := bel pr b1; clear b1)
    | fail)
  go_ret
  exact ⟨rfl, pr⟩
set_option maxRecDepth 100000 in
set_option maxHeartbeats 1600000 in
theorem signed_w_pos (n : Int) (w : World) : Calls Try.prog 61 #[szW, .bool false, .int .u64 n] w fun e w' => e = .returned (.int .u64 n) ∧ Below w.heap.size w w' := by
  go_enter Try.func61, Try.ntmps61
  have K0 := Blk.new w #[.int .i64 53, .int .i64 (-1074), .int .i64 971, .int .i64 52] 31
  have pr : Below w.heap.size w (w.alloc (.cells #[.int .i64 53, .int .i64 (-1074), .int .i64 971, .int .i64 52] 31)) := (Below.refl _ _).alloc (Nat.le_refl _) _
  go_wp2
  go_ret
  exact ⟨rfl, pr⟩
set_option maxRecDepth 100000 in
set_option maxHeartbeats 1600000 in
theorem signed_w_neg (n m : Int) (h : bits .or .u64 n 9223372036854775808 = m) (w : World) : Calls Try.prog 61 #[szW, .bool true, .int .u64 n] w fun e w' => e = .returned (.int .u64 m) ∧ Below w.heap.size w w' := by
  go_enter Try.func61, Try.ntmps61
  have K0 := Blk.new w #[.int .i64 53, .int .i64 (-1074), .int .i64 971, .int .i64 52] 31
  have pr : Below w.heap.size w (w.alloc (.cells #[.int .i64 53, .int .i64 (-1074), .int .i64 971, .int .i64 52] 31)) := (Below.refl _ _).alloc (Nat.le_refl _) _
  go_wp2_with (first
    | (go_at_call 97; refine (sign_w _).mono ?_; rintro e w1 ⟨rfl, b1⟩; replace K0 := K0.below b1 K0.lt; replace pr := bel pr b1; clear b1)
    | fail)
  go_ret
  exact ⟨rfl, pr⟩
set_option maxRecDepth 100000 in
set_option maxHeartbeats 1600000 in
theorem None_w (w : World) : Calls Try.prog 59 #[szW] w fun e w' => e = .returned (.int .u64 9221120237041090560) ∧ Below w.heap.size w w' := by
  go_enter Try.func59, Try.ntmps59
  go_wp2_with fail
  have K0 := Blk.new w #[.int .i64 53, .int .i64 (-1074), .int .i64 971, .int .i64 52] 31
  have pr : Below w.heap.size w (w.alloc (.cells #[.int .i64 53, .int .i64 (-1074), .int .i64 971, .int .i64 52] 31)) := (Below.refl _ _).alloc (Nat.le_refl _) _
  generalize w.alloc (.cells #[.int .i64 53, .int .i64 (-1074), .int .i64 971, .int .i64 52] 31) = W at *
  have L0 := K0.lt
  have e0 : W.cell? ⟨w.heap.size, 0, none⟩ = some (.int .i64 53) := K0.at 0
  have e1 : W.cell? ⟨w.heap.size, 1, none⟩ = some (.int .i64 (-1074)) := K0.at 1
  have e2 : W.cell? ⟨w.heap.size, 2, none⟩ = some (.int .i64 971) := K0.at 2
  have e3 : W.cell? ⟨w.heap.size, 3, none⟩ = some (.int .i64 52) := K0.at 3
  have h1 : IntKind.i64.wrap 51 = 51 := by decide
  have h2 : bits .or .u64 9218868437227405312 2251799813685248 = 9221120237041090560 := by decide
  have h3 : IntKind.u64.wrap 9218868437227405312 = 9218868437227405312 := by decide
  have h4 : IntKind.u64.wrap 2251799813685248 = 2251799813685248 := by decide
  go_region_held3 (fun x => x.cell? ⟨w.heap.size, 0, none⟩ = some (.int .i64 53) ∧ x.cell? ⟨w.heap.size, 1, none⟩ = some (.int .i64 (-1074)) ∧ x.cell? ⟨w.heap.size, 2, none⟩ = some (.int .i64 971) ∧ x.cell? ⟨w.heap.size, 3, none⟩ = some (.int .i64 52)) (go_keep) (first
    | (go_at_call 54; refine (top_w _).mono ?_; rintro e w1 ⟨rfl, b1⟩; have J0 := K0.below (below_undrew b1) K0.lt; have f0 : w1.cell? ⟨w.heap.size, 0, none⟩ = some (.int .i64 53) := J0.at 0; have f1 : w1.cell? ⟨w.heap.size, 1, none⟩ = some (.int .i64 (-1074)) := J0.at 1; have f2 : w1.cell? ⟨w.heap.size, 2, none⟩ = some (.int .i64 971) := J0.at 2; have f3 : w1.cell? ⟨w.heap.size, 3, none⟩ = some (.int .i64 52) := J0.at 3)
    | fail)
  go_wp2
  go_ret
  exact ⟨rfl, bel_drew pr b1⟩
/-- The reference's size of small floats. -/
abbrev szS : Value := .agg #[.int .i64 24, .int .i64 (-149), .int .i64 104, .int .i64 23]
set_option maxRecDepth 100000 in
set_option maxHeartbeats 1600000 in
theorem Small_any (w : World) : Calls Try.prog 15 #[] w fun e w' => e = .returned szS ∧ Below w.heap.size w w' := by
  go_enter Try.func15, Try.ntmps15
  go_wp2
  refine bodyPost_ret (v := szS) (by simp [results, Try.results15, go_sem]) rfl ⟨rfl, ?_⟩
  exact (Below.refl _ _).alloc (Nat.le_refl _) _
set_option maxRecDepth 100000 in
set_option maxHeartbeats 1600000 in
theorem top_s (w : World) : Calls Try.prog 54 #[szS] w fun e w' => e = .returned (.int .u64 255) ∧ Below w.heap.size w w' := by
  go_enter Try.func54, Try.ntmps54
  go_wp2
  go_ret
  exact ⟨rfl, (Below.refl _ _).alloc (Nat.le_refl _) _⟩
set_option maxRecDepth 100000 in
set_option maxHeartbeats 1600000 in
theorem sign_s (w : World) : Calls Try.prog 97 #[szS] w fun e w' => e = .returned (.int .i64 31) ∧ Below w.heap.size w w' := by
  go_enter Try.func97, Try.ntmps97
  go_wp2
  go_ret
  exact ⟨rfl, (Below.refl _ _).alloc (Nat.le_refl _) _⟩
set_option maxRecDepth 100000 in
set_option maxHeartbeats 1600000 in
theorem Neg_s (n : Int) (g : Bool) (h : (bits .and .u64 (n / 2147483648) 1 == 1) = g) (w : World) : Calls Try.prog 55 #[szS, .int .u64 n] w fun e w' => e = .returned (.bool g) ∧ Below w.heap.size w w' := by
  go_enter Try.func55, Try.ntmps55
  have K0 := Blk.new w #[.int .i64 24, .int .i64 (-149), .int .i64 104, .int .i64 23] 31
  have pr : Below w.heap.size w (w.alloc (.cells #[.int .i64 24, .int .i64 (-149), .int .i64 104, .int .i64 23] 31)) := (Below.refl _ _).alloc (Nat.le_refl _) _
  go_wp2_with (first
    | (go_at_call 97; refine (sign_s _).mono ?_; rintro e w1 ⟨rfl, b1⟩; replace K0 := K0.below b1 K0.lt; replace pr := bel pr b1; clear b1)
    | fail)
  go_ret
  exact ⟨rfl, pr⟩
set_option maxRecDepth 100000 in
set_option maxHeartbeats 1600000 in
theorem signed_s_pos (n : Int) (w : World) : Calls Try.prog 61 #[szS, .bool false, .int .u64 n] w fun e w' => e = .returned (.int .u64 n) ∧ Below w.heap.size w w' := by
  go_enter Try.func61, Try.ntmps61
  have K0 := Blk.new w #[.int .i64 24, .int .i64 (-149), .int .i64 104, .int .i64 23] 31
  have pr : Below w.heap.size w (w.alloc (.cells #[.int .i64 24, .int .i64 (-149), .int .i64 104, .int .i64 23] 31)) := (Below.refl _ _).alloc (Nat.le_refl _) _
  go_wp2
  go_ret
  exact ⟨rfl, pr⟩
set_option maxRecDepth 100000 in
set_option maxHeartbeats 1600000 in
theorem signed_s_neg (n m : Int) (h : bits .or .u64 n 2147483648 = m) (w : World) : Calls Try.prog 61 #[szS, .bool true, .int .u64 n] w fun e w' => e = .returned (.int .u64 m) ∧ Below w.heap.size w w' := by
  go_enter Try.func61, Try.ntmps61
  have K0 := Blk.new w #[.int .i64 24, .int .i64 (-149), .int .i64 104, .int .i64 23] 31
  have pr : Below w.heap.size w (w.alloc (.cells #[.int .i64 24, .int .i64 (-149), .int .i64 104, .int .i64 23] 31)) := (Below.refl _ _).alloc (Nat.le_refl _) _
  go_wp2_with (first
    | (go_at_call 97; refine (sign_s _).mono ?_; rintro e w1 ⟨rfl, b1⟩; replace K0 := K0.below b1 K0.lt; replace pr := bel pr b1; clear b1)
    | fail)
  go_ret
  exact ⟨rfl, pr⟩
set_option maxRecDepth 100000 in
set_option maxHeartbeats 1600000 in
theorem None_s (w : World) : Calls Try.prog 59 #[szS] w fun e w' => e = .returned (.int .u64 2143289344) ∧ Below w.heap.size w w' := by
  go_enter Try.func59, Try.ntmps59
  go_wp2_with fail
  have K0 := Blk.new w #[.int .i64 24, .int .i64 (-149), .int .i64 104, .int .i64 23] 31
  have pr : Below w.heap.size w (w.alloc (.cells #[.int .i64 24, .int .i64 (-149), .int .i64 104, .int .i64 23] 31)) := (Below.refl _ _).alloc (Nat.le_refl _) _
  generalize w.alloc (.cells #[.int .i64 24, .int .i64 (-149), .int .i64 104, .int .i64 23] 31) = W at *
  have L0 := K0.lt
  have e0 : W.cell? ⟨w.heap.size, 0, none⟩ = some (.int .i64 24) := K0.at 0
  have e1 : W.cell? ⟨w.heap.size, 1, none⟩ = some (.int .i64 (-149)) := K0.at 1
  have e2 : W.cell? ⟨w.heap.size, 2, none⟩ = some (.int .i64 104) := K0.at 2
  have e3 : W.cell? ⟨w.heap.size, 3, none⟩ = some (.int .i64 23) := K0.at 3
  have h1 : IntKind.i64.wrap 22 = 22 := by decide
  have h2 : bits .or .u64 2139095040 4194304 = 2143289344 := by decide
  have h3 : IntKind.u64.wrap 2139095040 = 2139095040 := by decide
  have h4 : IntKind.u64.wrap 4194304 = 4194304 := by decide
  go_region_held3 (fun x => x.cell? ⟨w.heap.size, 0, none⟩ = some (.int .i64 24) ∧ x.cell? ⟨w.heap.size, 1, none⟩ = some (.int .i64 (-149)) ∧ x.cell? ⟨w.heap.size, 2, none⟩ = some (.int .i64 104) ∧ x.cell? ⟨w.heap.size, 3, none⟩ = some (.int .i64 23)) (go_keep) (first
    | (go_at_call 54; refine (top_s _).mono ?_; rintro e w1 ⟨rfl, b1⟩; have J0 := K0.below (below_undrew b1) K0.lt; have f0 : w1.cell? ⟨w.heap.size, 0, none⟩ = some (.int .i64 24) := J0.at 0; have f1 : w1.cell? ⟨w.heap.size, 1, none⟩ = some (.int .i64 (-149)) := J0.at 1; have f2 : w1.cell? ⟨w.heap.size, 2, none⟩ = some (.int .i64 104) := J0.at 2; have f3 : w1.cell? ⟨w.heap.size, 3, none⟩ = some (.int .i64 23) := J0.at 3)
    | fail)
  go_wp2
  go_ret
  exact ⟨rfl, bel_drew pr b1⟩
end Go.Proofs.Ytlngkonmalallaa

namespace Tn
open Go

theorem and63 (n k c : Nat) (hc : c = 2 ^ k) : (n &&& c ≠ 0) ↔ n / c % 2 = 1 := by
  subst hc
  have h := and_two_pow_eq_zero (n : Int) k (by omega)
  rw [toNat_two_pow, Int.toNat_natCast] at h
  have e : ((n : Int) / 2 ^ k % 2 = 1) ↔ n / 2 ^ k % 2 = 1 := by
    have e2 : ((n / 2 ^ k % 2 : Nat) : Int) = (n : Int) / 2 ^ k % 2 := by simp
    omega
  rw [ne_eq, h, e, Decidable.not_not]
theorem or_low (f k c : Nat) (hc : c = 2 ^ k) (hf : f < c) : f ||| c = f + c := by
  subst hc
  have := Nat.two_pow_add_eq_or_of_lt hf 1
  rw [Nat.mul_one] at this
  rw [Nat.or_comm]; omega
theorem or_high (a f k c : Nat) (hc : c = 2 ^ k) (hf : f < c) : c * a ||| f = c * a + f := by
  subst hc
  exact (Nat.two_pow_add_eq_or_of_lt hf a).symm
theorem bits_or_bd (x y : Int) : 0 ≤ bits .or .u64 x y ∧ bits .or .u64 x y < 18446744073709551616 := by
  unfold bits
  rw [IntKind.wrap_u64]
  omega
theorem bits_andNot_pow (m c k : Nat) (hc : c = 2 ^ k) (hk : k < 64) (h0 : c ≤ m) (h1 : m < 2 * c) : bits .andNot .u64 (m : Int) (c : Int) = ((m - c : Nat) : Int) := by
  have hp : c ≤ 2 ^ 63 := by rw [hc]; exact Nat.pow_le_pow_right (by omega) (by omega)
  have a1 : (BitVec.ofInt 64 (m : Int)).toNat = m := by
    rw [BitVec.ofInt_natCast, BitVec.toNat_ofNat]; exact Nat.mod_eq_of_lt (by omega)
  have a2 : (BitVec.ofInt 64 (c : Int)).toNat = c := by
    rw [BitVec.ofInt_natCast, BitVec.toNat_ofNat]; exact Nat.mod_eq_of_lt (by omega)
  show IntKind.u64.wrap ((BitVec.ofInt 64 (m : Int) &&& ~~~ BitVec.ofInt 64 (c : Int)).toNat : Int) = _
  have key : (BitVec.ofInt 64 (m : Int) &&& ~~~ BitVec.ofInt 64 (c : Int)).toNat = m - c := by
    apply Nat.eq_of_testBit_eq
    intro i
    rw [BitVec.toNat_and, Nat.testBit_and, BitVec.testBit_toNat, BitVec.testBit_toNat, BitVec.getLsbD_not]
    rw [← BitVec.testBit_toNat, ← BitVec.testBit_toNat, a1, a2, hc, Nat.testBit_two_pow]
    have e : m = 2 ^ k * 1 + (m - c) := by omega
    have hf : m - c < 2 ^ k := by omega
    rw [e, Nat.testBit_two_pow_mul_add _ hf]
    rw [show 2 ^ k * 1 + (m - c) - 2 ^ k = m - c from by omega]
    by_cases hi : i < k
    · simp [hi, show ¬ k = i from by omega, show i < 64 from by omega]
    · rw [if_neg hi]
      have z : (m - c).testBit i = false := Nat.testBit_lt_two_pow (Nat.lt_of_lt_of_le hf (Nat.pow_le_pow_right (by omega) (by omega)))
      rw [z]
      by_cases hik : k = i
      · simp [hik]
      · have z1 : Nat.testBit 1 (i - k) = false := by
          rw [show (1 : Nat) = 2 ^ 0 from rfl, Nat.testBit_two_pow]; simp; omega
        simp [z1]
  rw [key, IntKind.wrap_u64]
  omega
/-- The sign of a float, by its bits. -/
def sgW (n : Nat) : Bool := decide (n / 9223372036854775808 % 2 = 1)
/-- The exponent's bits. -/
def fdW (n : Nat) : Nat := n / 4503599627370496 % 2048
/-- The fraction's bits. -/
def frW (n : Nat) : Nat := n % 4503599627370496
/-- The parts of a float, by its bits: its kind, whether it is below nought, m and e. -/
def splW (n : Nat) : Int × Bool × Int × Int :=
  if fdW n = 2047 then (if frW n = 0 then (3, sgW n, 0, 0) else (4, false, 0, 0))
  else if fdW n = 0 then (if frW n = 0 then (0, sgW n, 0, 0) else (1, sgW n, (frW n : Int), -1074))
  else (2, sgW n, (frW n : Int) + 4503599627370496, (fdW n : Int) - 1 - 1074)
/-- There is a float of these parts. -/
def OkW (p : Int × Bool × Int × Int) : Prop :=
  (p.1 = 0 ∧ p.2.2.1 = 0 ∧ p.2.2.2 = 0) ∨ (p.1 = 1 ∧ 0 < p.2.2.1 ∧ p.2.2.1 < 4503599627370496 ∧ p.2.2.2 = -1074) ∨
  (p.1 = 2 ∧ 4503599627370496 ≤ p.2.2.1 ∧ p.2.2.1 < 9007199254740992 ∧ -1074 ≤ p.2.2.2 ∧ p.2.2.2 ≤ 971) ∨
  (p.1 = 3 ∧ p.2.2.1 = 0 ∧ p.2.2.2 = 0) ∨ (p.1 = 4 ∧ p.2.1 = false ∧ p.2.2.1 = 0 ∧ p.2.2.2 = 0)
/-- Its bits. -/
def pckW (p : Int × Bool × Int × Int) : Int :=
  (if p.1 = 1 then p.2.2.1 else if p.1 = 2 then (p.2.2.2 + 1075) * 4503599627370496 + (p.2.2.1 - 4503599627370496) else if p.1 = 3 then 9218868437227405312 else if p.1 = 4 then 9221120237041090560 else 0) + (if p.2.1 = true then 9223372036854775808 else 0)
theorem splW_ok (n : Nat) : OkW (splW n) := by
  have h1 : fdW n < 2048 := Nat.mod_lt _ (by decide)
  have h2 : frW n < 4503599627370496 := Nat.mod_lt _ (by decide)
  unfold splW OkW
  split
  · split <;> simp
  · split
    · split
      · simp
      · simp; omega
    · simp; omega
theorem pckW_bd {p : Int × Bool × Int × Int} (h : OkW p) : 0 ≤ pckW p ∧ pckW p < 18446744073709551616 := by
  obtain ⟨k, g, m, e⟩ := p
  unfold OkW at h
  unfold pckW
  simp only at h ⊢
  cases g <;> rcases h with ⟨rfl, h⟩ | ⟨rfl, h⟩ | ⟨rfl, h⟩ | ⟨rfl, h⟩ | ⟨rfl, h⟩ <;> simp at h ⊢ <;> omega
theorem splW_pck {p : Int × Bool × Int × Int} (h : OkW p) : splW (pckW p).toNat = p := by
  have hb := pckW_bd h
  obtain ⟨N, hN⟩ := Int.eq_ofNat_of_zero_le hb.1
  rw [hN, Int.toNat_natCast]
  obtain ⟨k, g, m, e⟩ := p
  unfold OkW at h
  unfold pckW at hN
  simp only at h hN
  cases g <;> rcases h with ⟨rfl, h⟩ | ⟨rfl, h⟩ | ⟨rfl, h⟩ | ⟨rfl, h⟩ | ⟨rfl, h⟩ <;> simp at h hN
  all_goals
    have s : sgW N = false ∨ sgW N = true := by cases sgW N <;> simp
    rcases s with s | s <;> have s' := s <;> unfold sgW at s' <;> simp only [decide_eq_false_iff_not, decide_eq_true_eq] at s'
  all_goals
    first
    | (exfalso; omega)
    | (unfold splW
       rw [s]
       unfold fdW frW
       repeat' split
       all_goals first
         | (exfalso; omega)
         | (simp only [Prod.mk.injEq, true_and]; omega))
theorem hgW (n : Nat) (h : n < 18446744073709551616) : (bits .and .u64 (n : Int) 9223372036854775808 != 0) = sgW n := by
  have e := bits_and_u64_nat n 9223372036854775808 h (by decide)
  rw [show ((9223372036854775808 : Nat) : Int) = 9223372036854775808 from rfl] at e
  rw [e]
  have a := and63 n 63 9223372036854775808 (by decide)
  unfold sgW
  rw [Bool.eq_iff_iff, decide_eq_true_iff, ← a, bne_iff_ne]
  omega
theorem hg2W (n : Nat) (h : n < 18446744073709551616) : (bits .and .u64 ((n : Int) / 9223372036854775808) 1 == 1) = sgW n := by
  have e := bits_and_u64_nat (n / 9223372036854775808) 1 (by omega) (by decide)
  rw [show (((n / 9223372036854775808 : Nat)) : Int) = (n : Int) / 9223372036854775808 from by simp, show ((1 : Nat) : Int) = 1 from rfl, Nat.and_one_is_mod] at e
  rw [e]
  unfold sgW
  rw [Bool.eq_iff_iff, decide_eq_true_iff, beq_iff_eq]
  omega
theorem hdW (n : Nat) (h : n < 18446744073709551616) : bits .and .u64 ((n : Int) / 4503599627370496) 2047 = (fdW n : Int) := by
  have e := bits_and_u64_nat (n / 4503599627370496) 2047 (by omega) (by decide)
  rw [show (((n / 4503599627370496 : Nat)) : Int) = (n : Int) / 4503599627370496 from by simp, show ((2047 : Nat) : Int) = 2047 from rfl, show (2047 : Nat) = 2 ^ 11 - 1 from rfl, Nat.and_two_pow_sub_one_eq_mod] at e
  exact e
theorem hfW (n : Nat) (h : n < 18446744073709551616) : bits .and .u64 (n : Int) 4503599627370495 = (frW n : Int) := by
  have e := bits_and_u64_nat n 4503599627370495 h (by decide)
  rw [show ((4503599627370495 : Nat) : Int) = 4503599627370495 from rfl, show (4503599627370495 : Nat) = 2 ^ 52 - 1 from rfl, Nat.and_two_pow_sub_one_eq_mod] at e
  exact e
theorem horW (f : Nat) (h : f < 4503599627370496) : bits .or .u64 (f : Int) 4503599627370496 = (f : Int) + 4503599627370496 := by
  have e := bits_or_u64_nat f 4503599627370496 (by omega) (by decide)
  rw [show ((4503599627370496 : Nat) : Int) = 4503599627370496 from rfl, or_low f 52 4503599627370496 (by decide) h] at e
  rw [e]; omega
theorem hsgW (f : Nat) (h : f < 9223372036854775808) : bits .or .u64 (f : Int) 9223372036854775808 = (f : Int) + 9223372036854775808 := by
  have e := bits_or_u64_nat f 9223372036854775808 (by omega) (by decide)
  rw [show ((9223372036854775808 : Nat) : Int) = 9223372036854775808 from rfl, or_low f 63 9223372036854775808 (by decide) h] at e
  rw [e]; omega
/-- The bits of a normal one, put together. -/
theorem hpkW (d f : Nat) (hd : d < 2048) (h : f < 4503599627370496) : bits .or .u64 ((d : Int) * 4503599627370496) (f : Int) = (d : Int) * 4503599627370496 + (f : Int) := by
  have e := bits_or_u64_nat (4503599627370496 * d) f (by omega) (by omega)
  rw [or_high d f 52 4503599627370496 (by decide) h] at e
  rw [show (d : Int) * 4503599627370496 = ((4503599627370496 * d : Nat) : Int) from by omega, e]
  omega
/-- The sign of a small float, by its bits. -/
def sgS (n : Nat) : Bool := decide (n / 2147483648 % 2 = 1)
/-- The exponent's bits. -/
def fdS (n : Nat) : Nat := n / 8388608 % 256
/-- The fraction's bits. -/
def frS (n : Nat) : Nat := n % 8388608
/-- The parts of a small float, by its bits: its kind, whether it is below nought, m and e. -/
def splS (n : Nat) : Int × Bool × Int × Int :=
  if fdS n = 255 then (if frS n = 0 then (3, sgS n, 0, 0) else (4, false, 0, 0))
  else if fdS n = 0 then (if frS n = 0 then (0, sgS n, 0, 0) else (1, sgS n, (frS n : Int), -149))
  else (2, sgS n, (frS n : Int) + 8388608, (fdS n : Int) - 1 - 149)
/-- There is a small float of these parts. -/
def OkS (p : Int × Bool × Int × Int) : Prop :=
  (p.1 = 0 ∧ p.2.2.1 = 0 ∧ p.2.2.2 = 0) ∨ (p.1 = 1 ∧ 0 < p.2.2.1 ∧ p.2.2.1 < 8388608 ∧ p.2.2.2 = -149) ∨
  (p.1 = 2 ∧ 8388608 ≤ p.2.2.1 ∧ p.2.2.1 < 16777216 ∧ -149 ≤ p.2.2.2 ∧ p.2.2.2 ≤ 104) ∨
  (p.1 = 3 ∧ p.2.2.1 = 0 ∧ p.2.2.2 = 0) ∨ (p.1 = 4 ∧ p.2.1 = false ∧ p.2.2.1 = 0 ∧ p.2.2.2 = 0)
/-- Its bits. -/
def pckS (p : Int × Bool × Int × Int) : Int :=
  (if p.1 = 1 then p.2.2.1 else if p.1 = 2 then (p.2.2.2 + 150) * 8388608 + (p.2.2.1 - 8388608) else if p.1 = 3 then 2139095040 else if p.1 = 4 then 2143289344 else 0) + (if p.2.1 = true then 2147483648 else 0)
theorem splS_ok (n : Nat) : OkS (splS n) := by
  have h1 : fdS n < 256 := Nat.mod_lt _ (by decide)
  have h2 : frS n < 8388608 := Nat.mod_lt _ (by decide)
  unfold splS OkS
  split
  · split <;> simp
  · split
    · split
      · simp
      · simp; omega
    · simp; omega
theorem pckS_bd {p : Int × Bool × Int × Int} (h : OkS p) : 0 ≤ pckS p ∧ pckS p < 4294967296 := by
  obtain ⟨k, g, m, e⟩ := p
  unfold OkS at h
  unfold pckS
  simp only at h ⊢
  cases g <;> rcases h with ⟨rfl, h⟩ | ⟨rfl, h⟩ | ⟨rfl, h⟩ | ⟨rfl, h⟩ | ⟨rfl, h⟩ <;> simp at h ⊢ <;> omega
theorem splS_pck {p : Int × Bool × Int × Int} (h : OkS p) : splS (pckS p).toNat = p := by
  have hb := pckS_bd h
  obtain ⟨N, hN⟩ := Int.eq_ofNat_of_zero_le hb.1
  rw [hN, Int.toNat_natCast]
  obtain ⟨k, g, m, e⟩ := p
  unfold OkS at h
  unfold pckS at hN
  simp only at h hN
  cases g <;> rcases h with ⟨rfl, h⟩ | ⟨rfl, h⟩ | ⟨rfl, h⟩ | ⟨rfl, h⟩ | ⟨rfl, h⟩ <;> simp at h hN
  all_goals
    have s : sgS N = false ∨ sgS N = true := by cases sgS N <;> simp
    rcases s with s | s <;> have s' := s <;> unfold sgS at s' <;> simp only [decide_eq_false_iff_not, decide_eq_true_eq] at s'
  all_goals
    first
    | (exfalso; omega)
    | (unfold splS
       rw [s]
       unfold fdS frS
       repeat' split
       all_goals first
         | (exfalso; omega)
         | (simp only [Prod.mk.injEq, true_and]; omega))
theorem hgS (n : Nat) (h : n < 18446744073709551616) : (bits .and .u64 (n : Int) 2147483648 != 0) = sgS n := by
  have e := bits_and_u64_nat n 2147483648 h (by decide)
  rw [show ((2147483648 : Nat) : Int) = 2147483648 from rfl] at e
  rw [e]
  have a := and63 n 31 2147483648 (by decide)
  unfold sgS
  rw [Bool.eq_iff_iff, decide_eq_true_iff, ← a, bne_iff_ne]
  omega
theorem hg2S (n : Nat) (h : n < 18446744073709551616) : (bits .and .u64 ((n : Int) / 2147483648) 1 == 1) = sgS n := by
  have e := bits_and_u64_nat (n / 2147483648) 1 (by omega) (by decide)
  rw [show (((n / 2147483648 : Nat)) : Int) = (n : Int) / 2147483648 from by simp, show ((1 : Nat) : Int) = 1 from rfl, Nat.and_one_is_mod] at e
  rw [e]
  unfold sgS
  rw [Bool.eq_iff_iff, decide_eq_true_iff, beq_iff_eq]
  omega
theorem hdS (n : Nat) (h : n < 18446744073709551616) : bits .and .u64 ((n : Int) / 8388608) 255 = (fdS n : Int) := by
  have e := bits_and_u64_nat (n / 8388608) 255 (by omega) (by decide)
  rw [show (((n / 8388608 : Nat)) : Int) = (n : Int) / 8388608 from by simp, show ((255 : Nat) : Int) = 255 from rfl, show (255 : Nat) = 2 ^ 8 - 1 from rfl, Nat.and_two_pow_sub_one_eq_mod] at e
  exact e
theorem hfS (n : Nat) (h : n < 18446744073709551616) : bits .and .u64 (n : Int) 8388607 = (frS n : Int) := by
  have e := bits_and_u64_nat n 8388607 h (by decide)
  rw [show ((8388607 : Nat) : Int) = 8388607 from rfl, show (8388607 : Nat) = 2 ^ 23 - 1 from rfl, Nat.and_two_pow_sub_one_eq_mod] at e
  exact e
theorem horS (f : Nat) (h : f < 8388608) : bits .or .u64 (f : Int) 8388608 = (f : Int) + 8388608 := by
  have e := bits_or_u64_nat f 8388608 (by omega) (by decide)
  rw [show ((8388608 : Nat) : Int) = 8388608 from rfl, or_low f 23 8388608 (by decide) h] at e
  rw [e]; omega
theorem hsgS (f : Nat) (h : f < 2147483648) : bits .or .u64 (f : Int) 2147483648 = (f : Int) + 2147483648 := by
  have e := bits_or_u64_nat f 2147483648 (by omega) (by decide)
  rw [show ((2147483648 : Nat) : Int) = 2147483648 from rfl, or_low f 31 2147483648 (by decide) h] at e
  rw [e]; omega
/-- The bits of a normal one, put together. -/
theorem hpkS (d f : Nat) (hd : d < 256) (h : f < 8388608) : bits .or .u64 ((d : Int) * 8388608) (f : Int) = (d : Int) * 8388608 + (f : Int) := by
  have e := bits_or_u64_nat (8388608 * d) f (by omega) (by omega)
  rw [or_high d f 23 8388608 (by decide) h] at e
  rw [show (d : Int) * 8388608 = ((8388608 * d : Nat) : Int) from by omega, e]
  omega
end Tn
