import Derived.Test.YtlngkonmalallaaPart07

namespace Go.Proofs.Ytlngkonmalallaa
open Go.RowKit Tn

set_option maxRecDepth 100000 in
set_option maxHeartbeats 1600000 in
theorem pack_w_small_pos (m e : Int) (w : World) :
    Calls Try.prog 98 #[fmtW, .agg #[.int .i64 1, .bool false, .int .u64 m, .int .i64 e]] w fun e w' => e = .returned (.int .u64 m) ∧ Below w.heap.size w w' := by
  go_enter Try.func98, Try.ntmps98
  have K0 : Blk ((w.alloc (.cells #[.int .i64 53, .int .i64 (-1074), .int .i64 971] 85)).alloc (.cells #[.int .i64 1, .bool false, .int .u64 m, .int .i64 e] 25)) w.heap.size #[.int .i64 53, .int .i64 (-1074), .int .i64 971] 85 := (Blk.new w _ _).alloc _
  have K1 := Blk.new (w.alloc (.cells #[.int .i64 53, .int .i64 (-1074), .int .i64 971] 85)) #[.int .i64 1, .bool false, .int .u64 m, .int .i64 e] 25
  have pr : Below w.heap.size w ((w.alloc (.cells #[.int .i64 53, .int .i64 (-1074), .int .i64 971] 85)).alloc (.cells #[.int .i64 1, .bool false, .int .u64 m, .int .i64 e] 25)) := ((Below.refl _ _).alloc (Nat.le_refl _) _).alloc (by simp) _
  simp only [World.size_alloc] at K1
  go_wp2_with (first
    | (go_at_call 94; refine (signBit_w _).mono ?_; rintro e w3 ⟨rfl, b3⟩; replace K0 := K0.below b3 K0.lt; replace K1 := K1.below b3 K1.lt; replace pr := bel pr b3; clear b3)
    | fail)
  go_ret
  exact ⟨rfl, pr⟩
set_option maxRecDepth 100000 in
set_option maxHeartbeats 1600000 in
theorem pack_w_small_neg (m e s : Int) (hs : bits .or .u64 m 9223372036854775808 = s) (w : World) :
    Calls Try.prog 98 #[fmtW, .agg #[.int .i64 1, .bool true, .int .u64 m, .int .i64 e]] w fun e w' => e = .returned (.int .u64 s) ∧ Below w.heap.size w w' := by
  go_enter Try.func98, Try.ntmps98
  have K0 : Blk ((w.alloc (.cells #[.int .i64 53, .int .i64 (-1074), .int .i64 971] 85)).alloc (.cells #[.int .i64 1, .bool true, .int .u64 m, .int .i64 e] 25)) w.heap.size #[.int .i64 53, .int .i64 (-1074), .int .i64 971] 85 := (Blk.new w _ _).alloc _
  have K1 := Blk.new (w.alloc (.cells #[.int .i64 53, .int .i64 (-1074), .int .i64 971] 85)) #[.int .i64 1, .bool true, .int .u64 m, .int .i64 e] 25
  have pr : Below w.heap.size w ((w.alloc (.cells #[.int .i64 53, .int .i64 (-1074), .int .i64 971] 85)).alloc (.cells #[.int .i64 1, .bool true, .int .u64 m, .int .i64 e] 25)) := ((Below.refl _ _).alloc (Nat.le_refl _) _).alloc (by simp) _
  simp only [World.size_alloc] at K1
  go_wp2_with (first
    | (go_at_call 94; refine (signBit_w _).mono ?_; rintro e w3 ⟨rfl, b3⟩; replace K0 := K0.below b3 K0.lt; replace K1 := K1.below b3 K1.lt; replace pr := bel pr b3; clear b3)
    | fail)
  go_ret
  exact ⟨rfl, pr⟩
set_option maxRecDepth 100000 in
set_option maxHeartbeats 1600000 in
theorem pack_w_normal_pos (x1 x2 x3 x4 a r m e : Int) (hx1 : IntKind.i64.wrap (e + 1074) = x1) (hx2 : IntKind.i64.wrap (x1 + 1) = x2) (hx3 : IntKind.u64.wrap x2 = x3) (hx4 : IntKind.u64.wrap (x3 * 4503599627370496) = x4) (ha : bits .andNot .u64 m 4503599627370496 = a) (hr : bits .or .u64 x4 a = r) (w : World) :
    Calls Try.prog 98 #[fmtW, .agg #[.int .i64 2, .bool false, .int .u64 m, .int .i64 e]] w fun e w' => e = .returned (.int .u64 r) ∧ Below w.heap.size w w' := by
  go_enter Try.func98, Try.ntmps98
  have K0 : Blk ((w.alloc (.cells #[.int .i64 53, .int .i64 (-1074), .int .i64 971] 85)).alloc (.cells #[.int .i64 2, .bool false, .int .u64 m, .int .i64 e] 25)) w.heap.size #[.int .i64 53, .int .i64 (-1074), .int .i64 971] 85 := (Blk.new w _ _).alloc _
  have K1 := Blk.new (w.alloc (.cells #[.int .i64 53, .int .i64 (-1074), .int .i64 971] 85)) #[.int .i64 2, .bool false, .int .u64 m, .int .i64 e] 25
  have pr : Below w.heap.size w ((w.alloc (.cells #[.int .i64 53, .int .i64 (-1074), .int .i64 971] 85)).alloc (.cells #[.int .i64 2, .bool false, .int .u64 m, .int .i64 e] 25)) := ((Below.refl _ _).alloc (Nat.le_refl _) _).alloc (by simp) _
  simp only [World.size_alloc] at K1
  go_wp2_with fail
  generalize ((w.alloc (.cells #[.int .i64 53, .int .i64 (-1074), .int .i64 971] 85)).alloc (.cells #[.int .i64 2, .bool false, .int .u64 m, .int .i64 e] 25)) = W at *
  have e0 : W.cell? ⟨w.heap.size, 0, none⟩ = some (.int .i64 53) := K0.at 0
  have e1 : W.cell? ⟨w.heap.size, 1, none⟩ = some (.int .i64 (-1074)) := K0.at 1
  have e2 : W.cell? ⟨w.heap.size, 2, none⟩ = some (.int .i64 971) := K0.at 2
  have c0 : W.cell? ⟨w.heap.size + 1, 0, none⟩ = some (.int .i64 2) := K1.at 0
  have c1 : W.cell? ⟨w.heap.size + 1, 1, none⟩ = some (.bool false) := K1.at 1
  have c2 : W.cell? ⟨w.heap.size + 1, 2, none⟩ = some (.int .u64 m) := K1.at 2
  have c3 : W.cell? ⟨w.heap.size + 1, 3, none⟩ = some (.int .i64 e) := K1.at 3
  have h1 : IntKind.i64.wrap 52 = 52 := by decide
  go_region_held3 (fun x => x.cell? ⟨w.heap.size, 0, none⟩ = some (.int .i64 53) ∧ x.cell? ⟨w.heap.size, 1, none⟩ = some (.int .i64 (-1074)) ∧ x.cell? ⟨w.heap.size, 2, none⟩ = some (.int .i64 971) ∧ x.cell? ⟨w.heap.size + 1, 0, none⟩ = some (.int .i64 2) ∧ x.cell? ⟨w.heap.size + 1, 1, none⟩ = some (.bool false) ∧ x.cell? ⟨w.heap.size + 1, 2, none⟩ = some (.int .u64 m) ∧ x.cell? ⟨w.heap.size + 1, 3, none⟩ = some (.int .i64 e)) (go_keep) (first
    | (go_at_call 96; refine (leastNormal_w _).mono ?_; rintro e w2 ⟨rfl, b2⟩; replace K0 := K0.below (below_undrew b2) K0.lt; replace K1 := K1.below (below_undrew b2) K1.lt; replace pr := bel pr (below_undrew b2); clear b2; have e0 : w2.cell? ⟨w.heap.size, 0, none⟩ = some (.int .i64 53) := K0.at 0; have e1 : w2.cell? ⟨w.heap.size, 1, none⟩ = some (.int .i64 (-1074)) := K0.at 1; have e2 : w2.cell? ⟨w.heap.size, 2, none⟩ = some (.int .i64 971) := K0.at 2; have c0 : w2.cell? ⟨w.heap.size + 1, 0, none⟩ = some (.int .i64 2) := K1.at 0; have c1 : w2.cell? ⟨w.heap.size + 1, 1, none⟩ = some (.bool false) := K1.at 1; have c2 : w2.cell? ⟨w.heap.size + 1, 2, none⟩ = some (.int .u64 m) := K1.at 2; have c3 : w2.cell? ⟨w.heap.size + 1, 3, none⟩ = some (.int .i64 e) := K1.at 3)
    | fail)
  go_wp2_with (first
    | (go_at_call 94; refine (signBit_w _).mono ?_; rintro e w3 ⟨rfl, b3⟩; replace K0 := K0.below b3 K0.lt; replace K1 := K1.below b3 K1.lt; replace pr := bel pr b3; clear b3)
    | fail)
  go_ret
  exact ⟨rfl, pr⟩
set_option maxRecDepth 100000 in
set_option maxHeartbeats 1600000 in
theorem pack_w_normal_neg (x1 x2 x3 x4 a r m e s : Int) (hx1 : IntKind.i64.wrap (e + 1074) = x1) (hx2 : IntKind.i64.wrap (x1 + 1) = x2) (hx3 : IntKind.u64.wrap x2 = x3) (hx4 : IntKind.u64.wrap (x3 * 4503599627370496) = x4) (ha : bits .andNot .u64 m 4503599627370496 = a) (hr : bits .or .u64 x4 a = r) (hs : bits .or .u64 r 9223372036854775808 = s) (w : World) :
    Calls Try.prog 98 #[fmtW, .agg #[.int .i64 2, .bool true, .int .u64 m, .int .i64 e]] w fun e w' => e = .returned (.int .u64 s) ∧ Below w.heap.size w w' := by
  go_enter Try.func98, Try.ntmps98
  have K0 : Blk ((w.alloc (.cells #[.int .i64 53, .int .i64 (-1074), .int .i64 971] 85)).alloc (.cells #[.int .i64 2, .bool true, .int .u64 m, .int .i64 e] 25)) w.heap.size #[.int .i64 53, .int .i64 (-1074), .int .i64 971] 85 := (Blk.new w _ _).alloc _
  have K1 := Blk.new (w.alloc (.cells #[.int .i64 53, .int .i64 (-1074), .int .i64 971] 85)) #[.int .i64 2, .bool true, .int .u64 m, .int .i64 e] 25
  have pr : Below w.heap.size w ((w.alloc (.cells #[.int .i64 53, .int .i64 (-1074), .int .i64 971] 85)).alloc (.cells #[.int .i64 2, .bool true, .int .u64 m, .int .i64 e] 25)) := ((Below.refl _ _).alloc (Nat.le_refl _) _).alloc (by simp) _
  simp only [World.size_alloc] at K1
  go_wp2_with fail
  generalize ((w.alloc (.cells #[.int .i64 53, .int .i64 (-1074), .int .i64 971] 85)).alloc (.cells #[.int .i64 2, .bool true, .int .u64 m, .int .i64 e] 25)) = W at *
  have e0 : W.cell? ⟨w.heap.size, 0, none⟩ = some (.int .i64 53) := K0.at 0
  have e1 : W.cell? ⟨w.heap.size, 1, none⟩ = some (.int .i64 (-1074)) := K0.at 1
  have e2 : W.cell? ⟨w.heap.size, 2, none⟩ = some (.int .i64 971) := K0.at 2
  have c0 : W.cell? ⟨w.heap.size + 1, 0, none⟩ = some (.int .i64 2) := K1.at 0
  have c1 : W.cell? ⟨w.heap.size + 1, 1, none⟩ = some (.bool true) := K1.at 1
  have c2 : W.cell? ⟨w.heap.size + 1, 2, none⟩ = some (.int .u64 m) := K1.at 2
  have c3 : W.cell? ⟨w.heap.size + 1, 3, none⟩ = some (.int .i64 e) := K1.at 3
  have h1 : IntKind.i64.wrap 52 = 52 := by decide
  go_region_held3 (fun x => x.cell? ⟨w.heap.size, 0, none⟩ = some (.int .i64 53) ∧ x.cell? ⟨w.heap.size, 1, none⟩ = some (.int .i64 (-1074)) ∧ x.cell? ⟨w.heap.size, 2, none⟩ = some (.int .i64 971) ∧ x.cell? ⟨w.heap.size + 1, 0, none⟩ = some (.int .i64 2) ∧ x.cell? ⟨w.heap.size + 1, 1, none⟩ = some (.bool true) ∧ x.cell? ⟨w.heap.size + 1, 2, none⟩ = some (.int .u64 m) ∧ x.cell? ⟨w.heap.size + 1, 3, none⟩ = some (.int .i64 e)) (go_keep) (first
    | (go_at_call 96; refine (leastNormal_w _).mono ?_; rintro e w2 ⟨rfl, b2⟩; replace K0 := K0.below (below_undrew b2) K0.lt; replace K1 := K1.below (below_undrew b2) K1.lt; replace pr := bel pr (below_undrew b2); clear b2; have e0 : w2.cell? ⟨w.heap.size, 0, none⟩ = some (.int .i64 53) := K0.at 0; have e1 : w2.cell? ⟨w.heap.size, 1, none⟩ = some (.int .i64 (-1074)) := K0.at 1; have e2 : w2.cell? ⟨w.heap.size, 2, none⟩ = some (.int .i64 971) := K0.at 2; have c0 : w2.cell? ⟨w.heap.size + 1, 0, none⟩ = some (.int .i64 2) := K1.at 0; have c1 : w2.cell? ⟨w.heap.size + 1, 1, none⟩ = some (.bool true) := K1.at 1; have c2 : w2.cell? ⟨w.heap.size + 1, 2, none⟩ = some (.int .u64 m) := K1.at 2; have c3 : w2.cell? ⟨w.heap.size + 1, 3, none⟩ = some (.int .i64 e) := K1.at 3)
    | fail)
  go_wp2_with (first
    | (go_at_call 94; refine (signBit_w _).mono ?_; rintro e w3 ⟨rfl, b3⟩; replace K0 := K0.below b3 K0.lt; replace K1 := K1.below b3 K1.lt; replace pr := bel pr b3; clear b3)
    | fail)
  go_ret
  exact ⟨rfl, pr⟩
set_option maxRecDepth 100000 in
set_option maxHeartbeats 1600000 in
theorem pack_w_inf_pos (m e : Int) (w : World) :
    Calls Try.prog 98 #[fmtW, .agg #[.int .i64 3, .bool false, .int .u64 m, .int .i64 e]] w fun e w' => e = .returned (.int .u64 9218868437227405312) ∧ Below w.heap.size w w' := by
  go_enter Try.func98, Try.ntmps98
  have K0 : Blk ((w.alloc (.cells #[.int .i64 53, .int .i64 (-1074), .int .i64 971] 85)).alloc (.cells #[.int .i64 3, .bool false, .int .u64 m, .int .i64 e] 25)) w.heap.size #[.int .i64 53, .int .i64 (-1074), .int .i64 971] 85 := (Blk.new w _ _).alloc _
  have K1 := Blk.new (w.alloc (.cells #[.int .i64 53, .int .i64 (-1074), .int .i64 971] 85)) #[.int .i64 3, .bool false, .int .u64 m, .int .i64 e] 25
  have pr : Below w.heap.size w ((w.alloc (.cells #[.int .i64 53, .int .i64 (-1074), .int .i64 971] 85)).alloc (.cells #[.int .i64 3, .bool false, .int .u64 m, .int .i64 e] 25)) := ((Below.refl _ _).alloc (Nat.le_refl _) _).alloc (by simp) _
  simp only [World.size_alloc] at K1
  go_wp2_with fail
  generalize ((w.alloc (.cells #[.int .i64 53, .int .i64 (-1074), .int .i64 971] 85)).alloc (.cells #[.int .i64 3, .bool false, .int .u64 m, .int .i64 e] 25)) = W at *
  have e0 : W.cell? ⟨w.heap.size, 0, none⟩ = some (.int .i64 53) := K0.at 0
  have e1 : W.cell? ⟨w.heap.size, 1, none⟩ = some (.int .i64 (-1074)) := K0.at 1
  have e2 : W.cell? ⟨w.heap.size, 2, none⟩ = some (.int .i64 971) := K0.at 2
  have c0 : W.cell? ⟨w.heap.size + 1, 0, none⟩ = some (.int .i64 3) := K1.at 0
  have c1 : W.cell? ⟨w.heap.size + 1, 1, none⟩ = some (.bool false) := K1.at 1
  have c2 : W.cell? ⟨w.heap.size + 1, 2, none⟩ = some (.int .u64 m) := K1.at 2
  have c3 : W.cell? ⟨w.heap.size + 1, 3, none⟩ = some (.int .i64 e) := K1.at 3
  have h1 : IntKind.i64.wrap 52 = 52 := by decide
  have h2 : IntKind.u64.wrap 9218868437227405312 = 9218868437227405312 := by decide
  go_region_held3 (fun x => x.cell? ⟨w.heap.size, 0, none⟩ = some (.int .i64 53) ∧ x.cell? ⟨w.heap.size, 1, none⟩ = some (.int .i64 (-1074)) ∧ x.cell? ⟨w.heap.size, 2, none⟩ = some (.int .i64 971) ∧ x.cell? ⟨w.heap.size + 1, 0, none⟩ = some (.int .i64 3) ∧ x.cell? ⟨w.heap.size + 1, 1, none⟩ = some (.bool false) ∧ x.cell? ⟨w.heap.size + 1, 2, none⟩ = some (.int .u64 m) ∧ x.cell? ⟨w.heap.size + 1, 3, none⟩ = some (.int .i64 e)) (go_keep) (first
    | (go_at_call 95; refine (topField_w _).mono ?_; rintro e w2 ⟨rfl, b2⟩; replace K0 := K0.below (below_undrew b2) K0.lt; replace K1 := K1.below (below_undrew b2) K1.lt; replace pr := bel pr (below_undrew b2); clear b2; have e0 : w2.cell? ⟨w.heap.size, 0, none⟩ = some (.int .i64 53) := K0.at 0; have e1 : w2.cell? ⟨w.heap.size, 1, none⟩ = some (.int .i64 (-1074)) := K0.at 1; have e2 : w2.cell? ⟨w.heap.size, 2, none⟩ = some (.int .i64 971) := K0.at 2; have c0 : w2.cell? ⟨w.heap.size + 1, 0, none⟩ = some (.int .i64 3) := K1.at 0; have c1 : w2.cell? ⟨w.heap.size + 1, 1, none⟩ = some (.bool false) := K1.at 1; have c2 : w2.cell? ⟨w.heap.size + 1, 2, none⟩ = some (.int .u64 m) := K1.at 2; have c3 : w2.cell? ⟨w.heap.size + 1, 3, none⟩ = some (.int .i64 e) := K1.at 3)
    | fail)
  go_wp2_with (first
    | (go_at_call 94; refine (signBit_w _).mono ?_; rintro e w3 ⟨rfl, b3⟩; replace K0 := K0.below b3 K0.lt; replace K1 := K1.below b3 K1.lt; replace pr := bel pr b3; clear b3)
    | fail)
  go_ret
  exact ⟨rfl, pr⟩
set_option maxRecDepth 100000 in
set_option maxHeartbeats 1600000 in
theorem pack_w_inf_neg (m e s : Int) (hs : bits .or .u64 9218868437227405312 9223372036854775808 = s) (w : World) :
    Calls Try.prog 98 #[fmtW, .agg #[.int .i64 3, .bool true, .int .u64 m, .int .i64 e]] w fun e w' => e = .returned (.int .u64 s) ∧ Below w.heap.size w w' := by
  go_enter Try.func98, Try.ntmps98
  have K0 : Blk ((w.alloc (.cells #[.int .i64 53, .int .i64 (-1074), .int .i64 971] 85)).alloc (.cells #[.int .i64 3, .bool true, .int .u64 m, .int .i64 e] 25)) w.heap.size #[.int .i64 53, .int .i64 (-1074), .int .i64 971] 85 := (Blk.new w _ _).alloc _
  have K1 := Blk.new (w.alloc (.cells #[.int .i64 53, .int .i64 (-1074), .int .i64 971] 85)) #[.int .i64 3, .bool true, .int .u64 m, .int .i64 e] 25
  have pr : Below w.heap.size w ((w.alloc (.cells #[.int .i64 53, .int .i64 (-1074), .int .i64 971] 85)).alloc (.cells #[.int .i64 3, .bool true, .int .u64 m, .int .i64 e] 25)) := ((Below.refl _ _).alloc (Nat.le_refl _) _).alloc (by simp) _
  simp only [World.size_alloc] at K1
  go_wp2_with fail
  generalize ((w.alloc (.cells #[.int .i64 53, .int .i64 (-1074), .int .i64 971] 85)).alloc (.cells #[.int .i64 3, .bool true, .int .u64 m, .int .i64 e] 25)) = W at *
  have e0 : W.cell? ⟨w.heap.size, 0, none⟩ = some (.int .i64 53) := K0.at 0
  have e1 : W.cell? ⟨w.heap.size, 1, none⟩ = some (.int .i64 (-1074)) := K0.at 1
  have e2 : W.cell? ⟨w.heap.size, 2, none⟩ = some (.int .i64 971) := K0.at 2
  have c0 : W.cell? ⟨w.heap.size + 1, 0, none⟩ = some (.int .i64 3) := K1.at 0
  have c1 : W.cell? ⟨w.heap.size + 1, 1, none⟩ = some (.bool true) := K1.at 1
  have c2 : W.cell? ⟨w.heap.size + 1, 2, none⟩ = some (.int .u64 m) := K1.at 2
  have c3 : W.cell? ⟨w.heap.size + 1, 3, none⟩ = some (.int .i64 e) := K1.at 3
  have h1 : IntKind.i64.wrap 52 = 52 := by decide
  have h2 : IntKind.u64.wrap 9218868437227405312 = 9218868437227405312 := by decide
  go_region_held3 (fun x => x.cell? ⟨w.heap.size, 0, none⟩ = some (.int .i64 53) ∧ x.cell? ⟨w.heap.size, 1, none⟩ = some (.int .i64 (-1074)) ∧ x.cell? ⟨w.heap.size, 2, none⟩ = some (.int .i64 971) ∧ x.cell? ⟨w.heap.size + 1, 0, none⟩ = some (.int .i64 3) ∧ x.cell? ⟨w.heap.size + 1, 1, none⟩ = some (.bool true) ∧ x.cell? ⟨w.heap.size + 1, 2, none⟩ = some (.int .u64 m) ∧ x.cell? ⟨w.heap.size + 1, 3, none⟩ = some (.int .i64 e)) (go_keep) (first
    | (go_at_call 95; refine (topField_w _).mono ?_; rintro e w2 ⟨rfl, b2⟩; replace K0 := K0.below (below_undrew b2) K0.lt; replace K1 := K1.below (below_undrew b2) K1.lt; replace pr := bel pr (below_undrew b2); clear b2; have e0 : w2.cell? ⟨w.heap.size, 0, none⟩ = some (.int .i64 53) := K0.at 0; have e1 : w2.cell? ⟨w.heap.size, 1, none⟩ = some (.int .i64 (-1074)) := K0.at 1; have e2 : w2.cell? ⟨w.heap.size, 2, none⟩ = some (.int .i64 971) := K0.at 2; have c0 : w2.cell? ⟨w.heap.size + 1, 0, none⟩ = some (.int .i64 3) := K1.at 0; have c1 : w2.cell? ⟨w.heap.size + 1, 1, none⟩ = some (.bool true) := K1.at 1; have c2 : w2.cell? ⟨w.heap.size + 1, 2, none⟩ = some (.int .u64 m) := K1.at 2; have c3 : w2.cell? ⟨w.heap.size + 1, 3, none⟩ = some (.int .i64 e) := K1.at 3)
    | fail)
  go_wp2_with (first
    | (go_at_call 94; refine (signBit_w _).mono ?_; rintro e w3 ⟨rfl, b3⟩; replace K0 := K0.below b3 K0.lt; replace K1 := K1.below b3 K1.lt; replace pr := bel pr b3; clear b3)
    | fail)
  go_ret
  exact ⟨rfl, pr⟩
set_option maxRecDepth 100000 in
set_option maxHeartbeats 1600000 in
theorem pack_w_none_pos (m e : Int) (w : World) :
    Calls Try.prog 98 #[fmtW, .agg #[.int .i64 4, .bool false, .int .u64 m, .int .i64 e]] w fun e w' => e = .returned (.int .u64 9221120237041090560) ∧ Below w.heap.size w w' := by
  go_enter Try.func98, Try.ntmps98
  have K0 : Blk ((w.alloc (.cells #[.int .i64 53, .int .i64 (-1074), .int .i64 971] 85)).alloc (.cells #[.int .i64 4, .bool false, .int .u64 m, .int .i64 e] 25)) w.heap.size #[.int .i64 53, .int .i64 (-1074), .int .i64 971] 85 := (Blk.new w _ _).alloc _
  have K1 := Blk.new (w.alloc (.cells #[.int .i64 53, .int .i64 (-1074), .int .i64 971] 85)) #[.int .i64 4, .bool false, .int .u64 m, .int .i64 e] 25
  have pr : Below w.heap.size w ((w.alloc (.cells #[.int .i64 53, .int .i64 (-1074), .int .i64 971] 85)).alloc (.cells #[.int .i64 4, .bool false, .int .u64 m, .int .i64 e] 25)) := ((Below.refl _ _).alloc (Nat.le_refl _) _).alloc (by simp) _
  simp only [World.size_alloc] at K1
  go_wp2_with fail
  generalize ((w.alloc (.cells #[.int .i64 53, .int .i64 (-1074), .int .i64 971] 85)).alloc (.cells #[.int .i64 4, .bool false, .int .u64 m, .int .i64 e] 25)) = W at *
  have e0 : W.cell? ⟨w.heap.size, 0, none⟩ = some (.int .i64 53) := K0.at 0
  have e1 : W.cell? ⟨w.heap.size, 1, none⟩ = some (.int .i64 (-1074)) := K0.at 1
  have e2 : W.cell? ⟨w.heap.size, 2, none⟩ = some (.int .i64 971) := K0.at 2
  have c0 : W.cell? ⟨w.heap.size + 1, 0, none⟩ = some (.int .i64 4) := K1.at 0
  have c1 : W.cell? ⟨w.heap.size + 1, 1, none⟩ = some (.bool false) := K1.at 1
  have c2 : W.cell? ⟨w.heap.size + 1, 2, none⟩ = some (.int .u64 m) := K1.at 2
  have c3 : W.cell? ⟨w.heap.size + 1, 3, none⟩ = some (.int .i64 e) := K1.at 3
  have h1 : IntKind.i64.wrap 52 = 52 := by decide
  have h2 : IntKind.u64.wrap 9218868437227405312 = 9218868437227405312 := by decide
  have h3 : bits .or .u64 9218868437227405312 2251799813685248 = 9221120237041090560 := by decide
  go_region_held3 (fun x => x.cell? ⟨w.heap.size, 0, none⟩ = some (.int .i64 53) ∧ x.cell? ⟨w.heap.size, 1, none⟩ = some (.int .i64 (-1074)) ∧ x.cell? ⟨w.heap.size, 2, none⟩ = some (.int .i64 971) ∧ x.cell? ⟨w.heap.size + 1, 0, none⟩ = some (.int .i64 4) ∧ x.cell? ⟨w.heap.size + 1, 1, none⟩ = some (.bool false) ∧ x.cell? ⟨w.heap.size + 1, 2, none⟩ = some (.int .u64 m) ∧ x.cell? ⟨w.heap.size + 1, 3, none⟩ = some (.int .i64 e)) (go_keep) (first
    | (go_at_call 95; refine (topField_w _).mono ?_; rintro e w2 ⟨rfl, b2⟩; replace K0 := K0.below b2 K0.lt; replace K1 := K1.below b2 K1.lt; replace pr := bel pr b2; clear b2; have e0 : w2.cell? ⟨w.heap.size, 0, none⟩ = some (.int .i64 53) := K0.at 0; have e1 : w2.cell? ⟨w.heap.size, 1, none⟩ = some (.int .i64 (-1074)) := K0.at 1; have e2 : w2.cell? ⟨w.heap.size, 2, none⟩ = some (.int .i64 971) := K0.at 2; have c0 : w2.cell? ⟨w.heap.size + 1, 0, none⟩ = some (.int .i64 4) := K1.at 0; have c1 : w2.cell? ⟨w.heap.size + 1, 1, none⟩ = some (.bool false) := K1.at 1; have c2 : w2.cell? ⟨w.heap.size + 1, 2, none⟩ = some (.int .u64 m) := K1.at 2; have c3 : w2.cell? ⟨w.heap.size + 1, 3, none⟩ = some (.int .i64 e) := K1.at 3)
    | (go_at_call 96; refine (leastNormal_w _).mono ?_; rintro e w2 ⟨rfl, b2⟩; replace K0 := K0.below b2 K0.lt; replace K1 := K1.below b2 K1.lt; replace pr := bel pr b2; clear b2; have e0 : w2.cell? ⟨w.heap.size, 0, none⟩ = some (.int .i64 53) := K0.at 0; have e1 : w2.cell? ⟨w.heap.size, 1, none⟩ = some (.int .i64 (-1074)) := K0.at 1; have e2 : w2.cell? ⟨w.heap.size, 2, none⟩ = some (.int .i64 971) := K0.at 2; have c0 : w2.cell? ⟨w.heap.size + 1, 0, none⟩ = some (.int .i64 4) := K1.at 0; have c1 : w2.cell? ⟨w.heap.size + 1, 1, none⟩ = some (.bool false) := K1.at 1; have c2 : w2.cell? ⟨w.heap.size + 1, 2, none⟩ = some (.int .u64 m) := K1.at 2; have c3 : w2.cell? ⟨w.heap.size + 1, 3, none⟩ = some (.int .i64 e) := K1.at 3)
    | (go_at_call 95; refine (topField_w _).mono ?_; rintro e w2 ⟨rfl, b2⟩; replace K0 := K0.below (below_undrew b2) K0.lt; replace K1 := K1.below (below_undrew b2) K1.lt; replace pr := bel pr (below_undrew b2); clear b2; have e0 : w2.cell? ⟨w.heap.size, 0, none⟩ = some (.int .i64 53) := K0.at 0; have e1 : w2.cell? ⟨w.heap.size, 1, none⟩ = some (.int .i64 (-1074)) := K0.at 1; have e2 : w2.cell? ⟨w.heap.size, 2, none⟩ = some (.int .i64 971) := K0.at 2; have c0 : w2.cell? ⟨w.heap.size + 1, 0, none⟩ = some (.int .i64 4) := K1.at 0; have c1 : w2.cell? ⟨w.heap.size + 1, 1, none⟩ = some (.bool false) := K1.at 1; have c2 : w2.cell? ⟨w.heap.size + 1, 2, none⟩ = some (.int .u64 m) := K1.at 2; have c3 : w2.cell? ⟨w.heap.size + 1, 3, none⟩ = some (.int .i64 e) := K1.at 3)
    | (go_at_call 96; refine (leastNormal_w _).mono ?_; rintro e w2 ⟨rfl, b2⟩; replace K0 := K0.below (below_undrew b2) K0.lt; replace K1 := K1.below (below_undrew b2) K1.lt; replace pr := bel pr (below_undrew b2); clear b2; have e0 : w2.cell? ⟨w.heap.size, 0, none⟩ = some (.int .i64 53) := K0.at 0; have e1 : w2.cell? ⟨w.heap.size, 1, none⟩ = some (.int .i64 (-1074)) := K0.at 1; have e2 : w2.cell? ⟨w.heap.size, 2, none⟩ = some (.int .i64 971) := K0.at 2; have c0 : w2.cell? ⟨w.heap.size + 1, 0, none⟩ = some (.int .i64 4) := K1.at 0; have c1 : w2.cell? ⟨w.heap.size + 1, 1, none⟩ = some (.bool false) := K1.at 1; have c2 : w2.cell? ⟨w.heap.size + 1, 2, none⟩ = some (.int .u64 m) := K1.at 2; have c3 : w2.cell? ⟨w.heap.size + 1, 3, none⟩ = some (.int .i64 e) := K1.at 3)
    | fail)
  go_wp2_with (first
    | (go_at_call 94; refine (signBit_w _).mono ?_; rintro e w3 ⟨rfl, b3⟩; replace K0 := K0.below b3 K0.lt; replace K1 := K1.below b3 K1.lt; replace pr := bel pr b3; clear b3)
    | fail)
  go_ret
  exact ⟨rfl, pr⟩
set_option maxRecDepth 100000 in
set_option maxHeartbeats 1600000 in
theorem pack_w_none_neg (m e s : Int) (hs : bits .or .u64 9221120237041090560 9223372036854775808 = s) (w : World) :
    Calls Try.prog 98 #[fmtW, .agg #[.int .i64 4, .bool true, .int .u64 m, .int .i64 e]] w fun e w' => e = .returned (.int .u64 s) ∧ Below w.heap.size w w' := by
  go_enter Try.func98, Try.ntmps98
  have K0 : Blk ((w.alloc (.cells #[.int .i64 53, .int .i64 (-1074), .int .i64 971] 85)).alloc (.cells #[.int .i64 4, .bool true, .int .u64 m, .int .i64 e] 25)) w.heap.size #[.int .i64 53, .int .i64 (-1074), .int .i64 971] 85 := (Blk.new w _ _).alloc _
  have K1 := Blk.new (w.alloc (.cells #[.int .i64 53, .int .i64 (-1074), .int .i64 971] 85)) #[.int .i64 4, .bool true, .int .u64 m, .int .i64 e] 25
  have pr : Below w.heap.size w ((w.alloc (.cells #[.int .i64 53, .int .i64 (-1074), .int .i64 971] 85)).alloc (.cells #[.int .i64 4, .bool true, .int .u64 m, .int .i64 e] 25)) := ((Below.refl _ _).alloc (Nat.le_refl _) _).alloc (by simp) _
  simp only [World.size_alloc] at K1
  go_wp2_with fail
  generalize ((w.alloc (.cells #[.int .i64 53, .int .i64 (-1074), .int .i64 971] 85)).alloc (.cells #[.int .i64 4, .bool true, .int .u64 m, .int .i64 e] 25)) = W at *
  have e0 : W.cell? ⟨w.heap.size, 0, none⟩ = some (.int .i64 53) := K0.at 0
  have e1 : W.cell? ⟨w.heap.size, 1, none⟩ = some (.int .i64 (-1074)) := K0.at 1
  have e2 : W.cell? ⟨w.heap.size, 2, none⟩ = some (.int .i64 971) := K0.at 2
  have c0 : W.cell? ⟨w.heap.size + 1, 0, none⟩ = some (.int .i64 4) := K1.at 0
  have c1 : W.cell? ⟨w.heap.size + 1, 1, none⟩ = some (.bool true) := K1.at 1
  have c2 : W.cell? ⟨w.heap.size + 1, 2, none⟩ = some (.int .u64 m) := K1.at 2
  have c3 : W.cell? ⟨w.heap.size + 1, 3, none⟩ = some (.int .i64 e) := K1.at 3
  have h1 : IntKind.i64.wrap 52 = 52 := by decide
  have h2 : IntKind.u64.wrap 9218868437227405312 = 9218868437227405312 := by decide
  have h3 : bits .or .u64 9218868437227405312 2251799813685248 = 9221120237041090560 := by decide
  go_region_held3 (fun x => x.cell? ⟨w.heap.size, 0, none⟩ = some (.int .i64 53) ∧ x.cell? ⟨w.heap.size, 1, none⟩ = some (.int .i64 (-1074)) ∧ x.cell? ⟨w.heap.size, 2, none⟩ = some (.int .i64 971) ∧ x.cell? ⟨w.heap.size + 1, 0, none⟩ = some (.int .i64 4) ∧ x.cell? ⟨w.heap.size + 1, 1, none⟩ = some (.bool true) ∧ x.cell? ⟨w.heap.size + 1, 2, none⟩ = some (.int .u64 m) ∧ x.cell? ⟨w.heap.size + 1, 3, none⟩ = some (.int .i64 e)) (go_keep) (first
    | (go_at_call 95; refine (topField_w _).mono ?_; rintro e w2 ⟨rfl, b2⟩; replace K0 := K0.below b2 K0.lt; replace K1 := K1.below b2 K1.lt; replace pr := bel pr b2; clear b2; have e0 : w2.cell? ⟨w.heap.size, 0, none⟩ = some (.int .i64 53) := K0.at 0; have e1 : w2.cell? ⟨w.heap.size, 1, none⟩ = some (.int .i64 (-1074)) := K0.at 1; have e2 : w2.cell? ⟨w.heap.size, 2, none⟩ = some (.int .i64 971) := K0.at 2; have c0 : w2.cell? ⟨w.heap.size + 1, 0, none⟩ = some (.int .i64 4) := K1.at 0; have c1 : w2.cell? ⟨w.heap.size + 1, 1, none⟩ = some (.bool true) := K1.at 1; have c2 : w2.cell? ⟨w.heap.size + 1, 2, none⟩ = some (.int .u64 m) := K1.at 2; have c3 : w2.cell? ⟨w.heap.size + 1, 3, none⟩ = some (.int .i64 e) := K1.at 3)
    | (go_at_call 96; refine (leastNormal_w _).mono ?_; rintro e w2 ⟨rfl, b2⟩; replace K0 := K0.below b2 K0.lt; replace K1 := K1.below b2 K1.lt; replace pr := bel pr b2; clear b2; have e0 : w2.cell? ⟨w.heap.size, 0, none⟩ = some (.int .i64 53) := K0.at 0; have e1 : w2.cell? ⟨w.heap.size, 1, none⟩ = some (.int .i64 (-1074)) := K0.at 1; have e2 : w2.cell? ⟨w.heap.size, 2, none⟩ = some (.int .i64 971) := K0.at 2; have c0 : w2.cell? ⟨w.heap.size + 1, 0, none⟩ = some (.int .i64 4) := K1.at 0; have c1 : w2.cell? ⟨w.heap.size + 1, 1, none⟩ = some (.bool true) := K1.at 1; have c2 : w2.cell? ⟨w.heap.size + 1, 2, none⟩ = some (.int .u64 m) := K1.at 2; have c3 : w2.cell? ⟨w.heap.size + 1, 3, none⟩ = some (.int .i64 e) := K1.at 3)
    | (go_at_call 95; refine (topField_w _).mono ?_; rintro e w2 ⟨rfl, b2⟩; replace K0 := K0.below (below_undrew b2) K0.lt; replace K1 := K1.below (below_undrew b2) K1.lt; replace pr := bel pr (below_undrew b2); clear b2; have e0 : w2.cell? ⟨w.heap.size, 0, none⟩ = some (.int .i64 53) := K0.at 0; have e1 : w2.cell? ⟨w.heap.size, 1, none⟩ = some (.int .i64 (-1074)) := K0.at 1; have e2 : w2.cell? ⟨w.heap.size, 2, none⟩ = some (.int .i64 971) := K0.at 2; have c0 : w2.cell? ⟨w.heap.size + 1, 0, none⟩ = some (.int .i64 4) := K1.at 0; have c1 : w2.cell? ⟨w.heap.size + 1, 1, none⟩ = some (.bool true) := K1.at 1; have c2 : w2.cell? ⟨w.heap.size + 1, 2, none⟩ = some (.int .u64 m) := K1.at 2; have c3 : w2.cell? ⟨w.heap.size + 1, 3, none⟩ = some (.int .i64 e) := K1.at 3)
    | (go_at_call 96; refine (leastNormal_w _).mono ?_; rintro e w2 ⟨rfl, b2⟩; replace K0 := K0.below (below_undrew b2) K0.lt; replace K1 := K1.below (below_undrew b2) K1.lt; replace pr := bel pr (below_undrew b2); clear b2; have e0 : w2.cell? ⟨w.heap.size, 0, none⟩ = some (.int .i64 53) := K0.at 0; have e1 : w2.cell? ⟨w.heap.size, 1, none⟩ = some (.int .i64 (-1074)) := K0.at 1; have e2 : w2.cell? ⟨w.heap.size, 2, none⟩ = some (.int .i64 971) := K0.at 2; have c0 : w2.cell? ⟨w.heap.size + 1, 0, none⟩ = some (.int .i64 4) := K1.at 0; have c1 : w2.cell? ⟨w.heap.size + 1, 1, none⟩ = some (.bool true) := K1.at 1; have c2 : w2.cell? ⟨w.heap.size + 1, 2, none⟩ = some (.int .u64 m) := K1.at 2; have c3 : w2.cell? ⟨w.heap.size + 1, 3, none⟩ = some (.int .i64 e) := K1.at 3)
    | fail)
  go_wp2_with (first
    | (go_at_call 94; refine (signBit_w _).mono ?_; rintro e w3 ⟨rfl, b3⟩; replace K0 := K0.below b3 K0.lt; replace K1 := K1.below b3 K1.lt; replace pr := bel pr b3; clear b3)
    | fail)
  go_ret
  exact ⟨rfl, pr⟩
set_option maxRecDepth 100000 in
set_option maxHeartbeats 1600000 in
theorem pack_w_else_pos (k m e : Int) (k1 : (k == 1) = false) (k2 : (k == 2) = false) (k3 : (k == 3) = false) (k4 : (k == 4) = false) (w : World) :
    Calls Try.prog 98 #[fmtW, .agg #[.int .i64 k, .bool false, .int .u64 m, .int .i64 e]] w fun e w' => e = .returned (.int .u64 0) ∧ Below w.heap.size w w' := by
  go_enter Try.func98, Try.ntmps98
  have K0 : Blk ((w.alloc (.cells #[.int .i64 53, .int .i64 (-1074), .int .i64 971] 85)).alloc (.cells #[.int .i64 k, .bool false, .int .u64 m, .int .i64 e] 25)) w.heap.size #[.int .i64 53, .int .i64 (-1074), .int .i64 971] 85 := (Blk.new w _ _).alloc _
  have K1 := Blk.new (w.alloc (.cells #[.int .i64 53, .int .i64 (-1074), .int .i64 971] 85)) #[.int .i64 k, .bool false, .int .u64 m, .int .i64 e] 25
  have pr : Below w.heap.size w ((w.alloc (.cells #[.int .i64 53, .int .i64 (-1074), .int .i64 971] 85)).alloc (.cells #[.int .i64 k, .bool false, .int .u64 m, .int .i64 e] 25)) := ((Below.refl _ _).alloc (Nat.le_refl _) _).alloc (by simp) _
  simp only [World.size_alloc] at K1
  go_wp2_with (first
    | (go_at_call 94; refine (signBit_w _).mono ?_; rintro e w3 ⟨rfl, b3⟩; replace K0 := K0.below b3 K0.lt; replace K1 := K1.below b3 K1.lt; replace pr := bel pr b3; clear b3)
    | fail)
  go_ret
  exact ⟨rfl, pr⟩
set_option maxRecDepth 100000 in
set_option maxHeartbeats 1600000 in
theorem pack_w_else_neg (k m e s : Int) (k1 : (k == 1) = false) (k2 : (k == 2) = false) (k3 : (k == 3) = false) (k4 : (k == 4) = false) (hs : bits .or .u64 0 9223372036854775808 = s) (w : World) :
    Calls Try.prog 98 #[fmtW, .agg #[.int .i64 k, .bool true, .int .u64 m, .int .i64 e]] w fun e w' => e = .returned (.int .u64 s) ∧ Below w.heap.size w w' := by
  go_enter Try.func98, Try.ntmps98
  have K0 : Blk ((w.alloc (.cells #[.int .i64 53, .int .i64 (-1074), .int .i64 971] 85)).alloc (.cells #[.int .i64 k, .bool true, .int .u64 m, .int .i64 e] 25)) w.heap.size #[.int .i64 53, .int .i64 (-1074), .int .i64 971] 85 := (Blk.new w _ _).alloc _
  have K1 := Blk.new (w.alloc (.cells #[.int .i64 53, .int .i64 (-1074), .int .i64 971] 85)) #[.int .i64 k, .bool true, .int .u64 m, .int .i64 e] 25
  have pr : Below w.heap.size w ((w.alloc (.cells #[.int .i64 53, .int .i64 (-1074), .int .i64 971] 85)).alloc (.cells #[.int .i64 k, .bool true, .int .u64 m, .int .i64 e] 25)) := ((Below.refl _ _).alloc (Nat.le_refl _) _).alloc (by simp) _
  simp only [World.size_alloc] at K1
  go_wp2_with (first
    | (go_at_call 94; refine (signBit_w _).mono ?_; rintro e w3 ⟨rfl, b3⟩; replace K0 := K0.below b3 K0.lt; replace K1 := K1.below b3 K1.lt; replace pr := bel pr b3; clear b3)
    | fail)
  go_ret
  exact ⟨rfl, pr⟩
set_option maxRecDepth 100000 in
set_option maxHeartbeats 1600000 in
theorem pack_s_small_pos (m e : Int) (w : World) :
    Calls Try.prog 98 #[fmtS, .agg #[.int .i64 1, .bool false, .int .u64 m, .int .i64 e]] w fun e w' => e = .returned (.int .u64 m) ∧ Below w.heap.size w w' := by
  go_enter Try.func98, Try.ntmps98
  have K0 : Blk ((w.alloc (.cells #[.int .i64 24, .int .i64 (-149), .int .i64 104] 85)).alloc (.cells #[.int .i64 1, .bool false, .int .u64 m, .int .i64 e] 25)) w.heap.size #[.int .i64 24, .int .i64 (-149), .int .i64 104] 85 := (Blk.new w _ _).alloc _
  have K1 := Blk.new (w.alloc (.cells #[.int .i64 24, .int .i64 (-149), .int .i64 104] 85)) #[.int .i64 1, .bool false, .int .u64 m, .int .i64 e] 25
  have pr : Below w.heap.size w ((w.alloc (.cells #[.int .i64 24, .int .i64 (-149), .int .i64 104] 85)).alloc (.cells #[.int .i64 1, .bool false, .int .u64 m, .int .i64 e] 25)) := ((Below.refl _ _).alloc (Nat.le_refl _) _).alloc (by simp) _
  simp only [World.size_alloc] at K1
  go_wp2_with (first
    | (go_at_call 94; refine (signBit_s _).mono ?_; rintro e w3 ⟨rfl, b3⟩; replace K0 := K0.below b3 K0.lt; replace K1 := K1.below b3 K1.lt; replace pr := bel pr b3; clear b3)
    | fail)
  go_ret
  exact ⟨rfl, pr⟩
set_option maxRecDepth 100000 in
set_option maxHeartbeats 1600000 in
theorem pack_s_small_neg (m e s : Int) (hs : bits .or .u64 m 2147483648 = s) (w : World) :
    Calls Try.prog 98 #[fmtS, .agg #[.int .i64 1, .bool true, .int .u64 m, .int .i64 e]] w fun e w' => e = .returned (.int .u64 s) ∧ Below w.heap.size w w' := by
  go_enter Try.func98, Try.ntmps98
  have K0 : Blk ((w.alloc (.cells #[.int .i64 24, .int .i64 (-149), .int .i64 104] 85)).alloc (.cells #[.int .i64 1, .bool true, .int .u64 m, .int .i64 e] 25)) w.heap.size #[.int .i64 24, .int .i64 (-149), .int .i64 104] 85 := (Blk.new w _ _).alloc _
  have K1 := Blk.new (w.alloc (.cells #[.int .i64 24, .int .i64 (-149), .int .i64 104] 85)) #[.int .i64 1, .bool true, .int .u64 m, .int .i64 e] 25
  have pr : Below w.heap.size w ((w.alloc (.cells #[.int .i64 24, .int .i64 (-149), .int .i64 104] 85)).alloc (.cells #[.int .i64 1, .bool true, .int .u64 m, .int .i64 e] 25)) := ((Below.refl _ _).alloc (Nat.le_refl _) _).alloc (by simp) _
  simp only [World.size_alloc] at K1
  go_wp2_with (first
    | (go_at_call 94; refine (signBit_s _).mono ?_; rintro e w3 ⟨rfl, b3⟩; replace K0 := K0.below b3 K0.lt; replace K1 := K1.below b3 K1.lt; replace pr := bel pr b3; clear b3)
    | fail)
  go_ret
  exact ⟨rfl, pr⟩
set_option maxRecDepth 100000 in
set_option maxHeartbeats 1600000 in
theorem pack_s_normal_pos (x1 x2 x3 x4 a r m e : Int) (hx1 : IntKind.i64.wrap (e + 149) = x1) (hx2 : IntKind.i64.wrap (x1 + 1) = x2) (hx3 : IntKind.u64.wrap x2 = x3) (hx4 : IntKind.u64.wrap (x3 * 8388608) = x4) (ha : bits .andNot .u64 m 8388608 = a) (hr : bits .or .u64 x4 a = r) (w : World) :
    Calls Try.prog 98 #[fmtS, .agg #[.int .i64 2, .bool false, .int .u64 m, .int .i64 e]] w fun e w' => e = .returned (.int .u64 r) ∧ Below w.heap.size w w' := by
  go_enter Try.func98, Try.ntmps98
  have K0 : Blk ((w.alloc (.cells #[.int .i64 24, .int .i64 (-149), .int .i64 104] 85)).alloc (.cells #[.int .i64 2, .bool false, .int .u64 m, .int .i64 e] 25)) w.heap.size #[.int .i64 24, .int .i64 (-149), .int .i64 104] 85 := (Blk.new w _ _).alloc _
  have K1 := Blk.new (w.alloc (.cells #[.int .i64 24, .int .i64 (-149), .int .i64 104] 85)) #[.int .i64 2, .bool false, .int .u64 m, .int .i64 e] 25
  have pr : Below w.heap.size w ((w.alloc (.cells #[.int .i64 24, .int .i64 (-149), .int .i64 104] 85)).alloc (.cells #[.int .i64 2, .bool false, .int .u64 m, .int .i64 e] 25)) := ((Below.refl _ _).alloc (Nat.le_refl _) _).alloc (by simp) _
  simp only [World.size_alloc] at K1
  go_wp2_with fail
  generalize ((w.alloc (.cells #[.int .i64 24, .int .i64 (-149), .int .i64 104] 85)).alloc (.cells #[.int .i64 2, .bool false, .int .u64 m, .int .i64 e] 25)) = W at *
  have e0 : W.cell? ⟨w.heap.size, 0, none⟩ = some (.int .i64 24) := K0.at 0
  have e1 : W.cell? ⟨w.heap.size, 1, none⟩ = some (.int .i64 (-149)) := K0.at 1
  have e2 : W.cell? ⟨w.heap.size, 2, none⟩ = some (.int .i64 104) := K0.at 2
  have c0 : W.cell? ⟨w.heap.size + 1, 0, none⟩ = some (.int .i64 2) := K1.at 0
  have c1 : W.cell? ⟨w.heap.size + 1, 1, none⟩ = some (.bool false) := K1.at 1
  have c2 : W.cell? ⟨w.heap.size + 1, 2, none⟩ = some (.int .u64 m) := K1.at 2
  have c3 : W.cell? ⟨w.heap.size + 1, 3, none⟩ = some (.int .i64 e) := K1.at 3
  have h1 : IntKind.i64.wrap 23 = 23 := by decide
  go_region_held3 (fun x => x.cell? ⟨w.heap.size, 0, none⟩ = some (.int .i64 24) ∧ x.cell? ⟨w.heap.size, 1, none⟩ = some (.int .i64 (-149)) ∧ x.cell? ⟨w.heap.size, 2, none⟩ = some (.int .i64 104) ∧ x.cell? ⟨w.heap.size + 1, 0, none⟩ = some (.int .i64 2) ∧ x.cell? ⟨w.heap.size + 1, 1, none⟩ = some (.bool false) ∧ x.cell? ⟨w.heap.size + 1, 2, none⟩ = some (.int .u64 m) ∧ x.cell? ⟨w.heap.size + 1, 3, none⟩ = some (.int .i64 e)) (go_keep) (first
    | (go_at_call 96; refine (leastNormal_s _).mono ?_; rintro e w2 ⟨rfl, b2⟩; replace K0 := K0.below (below_undrew b2) K0.lt; replace K1 := K1.below (below_undrew b2) K1.lt; replace pr := bel pr (below_undrew b2); clear b2; have e0 : w2.cell? ⟨w.heap.size, 0, none⟩ = some (.int .i64 24) := K0.at 0; have e1 : w2.cell? ⟨w.heap.size, 1, none⟩ = some (.int .i64 (-149)) := K0.at 1; have e2 : w2.cell? ⟨w.heap.size, 2, none⟩ = some (.int .i64 104) := K0.at 2; have c0 : w2.cell? ⟨w.heap.size + 1, 0, none⟩ = some (.int .i64 2) := K1.at 0; have c1 : w2.cell? ⟨w.heap.size + 1, 1, none⟩ = some (.bool false) := K1.at 1; have c2 : w2.cell? ⟨w.heap.size + 1, 2, none⟩ = some (.int .u64 m) := K1.at 2; have c3 : w2.cell? ⟨w.heap.size + 1, 3, none⟩ = some (.int .i64 e) := K1.at 3)
    | fail)
  go_wp2_with (first
    | (go_at_call 94; refine (signBit_s _).mono ?_; rintro e w3 ⟨rfl, b3⟩; replace K0 := K0.below b3 K0.lt; replace K1 := K1.below b3 K1.lt; replace pr := bel pr b3; clear b3)
    | fail)
  go_ret
  exact ⟨rfl, pr⟩
set_option maxRecDepth 100000 in
set_option maxHeartbeats 1600000 in
theorem pack_s_normal_neg (x1 x2 x3 x4 a r m e s : Int) (hx1 : IntKind.i64.wrap (e + 149) = x1) (hx2 : IntKind.i64.wrap (x1 + 1) = x2) (hx3 : IntKind.u64.wrap x2 = x3) (hx4 : IntKind.u64.wrap (x3 * 8388608) = x4) (ha : bits .andNot .u64 m 8388608 = a) (hr : bits .or .u64 x4 a = r) (hs : bits .or .u64 r 2147483648 = s) (w : World) :
    Calls Try.prog 98 #[fmtS, .agg #[.int .i64 2, .bool true, .int .u64 m, .int .i64 e]] w fun e w' => e = .returned (.int .u64 s) ∧ Below w.heap.size w w' := by
  go_enter Try.func98, Try.ntmps98
  have K0 : Blk ((w.alloc (.cells #[.int .i64 24, .int .i64 (-149), .int .i64 104] 85)).alloc (.cells #[.int .i64 2, .bool true, .int .u64 m, .int .i64 e] 25)) w.heap.size #[.int .i64 24, .int .i64 (-149), .int .i64 104] 85 := (Blk.new w _ _).alloc _
  have K1 := Blk.new (w.alloc (.cells #[.int .i64 24, .int .i64 (-149), .int .i64 104] 85)) #[.int .i64 2, .bool true, .int .u64 m, .int .i64 e] 25
  have pr : Below w.heap.size w ((w.alloc (.cells #[.int .i64 24, .int .i64 (-149), .int .i64 104] 85)).alloc (.cells #[.int .i64 2, .bool true, .int .u64 m, .int .i64 e] 25)) := ((Below.refl _ _).alloc (Nat.le_refl _) _).alloc (by simp) _
  simp only [World.size_alloc] at K1
  go_wp2_with fail
  generalize ((w.alloc (.cells #[.int .i64 24, .int .i64 (-149), .int .i64 104] 85)).alloc (.cells #[.int .i64 2, .bool true, .int .u64 m, .int .i64 e] 25)) = W at *
  have e0 : W.cell? ⟨w.heap.size, 0, none⟩ = some (.int .i64 24) := K0.at 0
  have e1 : W.cell? ⟨w.heap.size, 1, none⟩ = some (.int .i64 (-149)) := K0.at 1
  have e2 : W.cell? ⟨w.heap.size, 2, none⟩ = some (.int .i64 104) := K0.at 2
  have c0 : W.cell? ⟨w.heap.size + 1, 0, none⟩ = some (.int .i64 2) := K1.at 0
  have c1 : W.cell? ⟨w.heap.size + 1, 1, none⟩ = some (.bool true) := K1.at 1
  have c2 : W.cell? ⟨w.heap.size + 1, 2, none⟩ = some (.int .u64 m) := K1.at 2
  have c3 : W.cell? ⟨w.heap.size + 1, 3, none⟩ = some (.int .i64 e) := K1.at 3
  have h1 : IntKind.i64.wrap 23 = 23 := by decide
  go_region_held3 (fun x => x.cell? ⟨w.heap.size, 0, none⟩ = some (.int .i64 24) ∧ x.cell? ⟨w.heap.size, 1, none⟩ = some (.int .i64 (-149)) ∧ x.cell? ⟨w.heap.size, 2, none⟩ = some (.int .i64 104) ∧ x.cell? ⟨w.heap.size + 1, 0, none⟩ = some (.int .i64 2) ∧ x.cell? ⟨w.heap.size + 1, 1, none⟩ = some (.bool true) ∧ x.cell? ⟨w.heap.size + 1, 2, none⟩ = some (.int .u64 m) ∧ x.cell? ⟨w.heap.size + 1, 3, none⟩ = some (.int .i64 e)) (go_keep) (first
    | (go_at_call 96; refine (leastNormal_s _).mono ?_; rintro e w2 ⟨rfl, b2⟩; replace K0 := K0.below (below_undrew b2) K0.lt; replace K1 := K1.below (below_undrew b2) K1.lt; replace pr := bel pr (below_undrew b2); clear b2; have e0 : w2.cell? ⟨w.heap.size, 0, none⟩ = some (.int .i64 24) := K0.at 0; have e1 : w2.cell? ⟨w.heap.size, 1, none⟩ = some (.int .i64 (-149)) := K0.at 1; have e2 : w2.cell? ⟨w.heap.size, 2, none⟩ = some (.int .i64 104) := K0.at 2; have c0 : w2.cell? ⟨w.heap.size + 1, 0, none⟩ = some (.int .i64 2) := K1.at 0; have c1 : w2.cell? ⟨w.heap.size + 1, 1, none⟩ = some (.bool true) := K1.at 1; have c2 : w2.cell? ⟨w.heap.size + 1, 2, none⟩ = some (.int .u64 m) := K1.at 2; have c3 : w2.cell? ⟨w.heap.size + 1, 3, none⟩ = some (.int .i64 e) := K1.at 3)
    | fail)
  go_wp2_with (first
    | (go_at_call 94; refine (signBit_s _).mono ?_; rintro e w3 ⟨rfl, b3⟩; replace K0 := K0.below b3 K0.lt; replace K1 := K1.below b3 K1.lt; replace pr := bel pr b3; clear b3)
    | fail)
  go_ret
  exact ⟨rfl, pr⟩
set_option maxRecDepth 100000 in
set_option maxHeartbeats 1600000 in
theorem pack_s_inf_pos (m e : Int) (w : World) :
    Calls Try.prog 98 #[fmtS, .agg #[.int .i64 3, .bool false, .int .u64 m, .int .i64 e]] w fun e w' => e = .returned (.int .u64 2139095040) ∧ Below w.heap.size w w' := by
  go_enter Try.func98, Try.ntmps98
  have K0 : Blk ((w.alloc (.cells #[.int .i64 24, .int .i64 (-149), .int .i64 104] 85)).alloc (.cells #[.int .i64 3, .bool false, .int .u64 m, .int .i64 e] 25)) w.heap.size #[.int .i64 24, .int .i64 (-149), .int .i64 104] 85 := (Blk.new w _ _).alloc _
  have K1 := Blk.new (w.alloc (.cells #[.int .i64 24, .int .i64 (-149), .int .i64 104] 85)) #[.int .i64 3, .bool false, .int .u64 m, .int .i64 e] 25
  have pr : Below w.heap.size w ((w.alloc (.cells #[.int .i64 24, .int .i64 (-149), .int .i64 104] 85)).alloc (.cells #[.int .i64 3, .bool false, .int .u64 m, .int .i64 e] 25)) := ((Below.refl _ _).alloc (Nat.le_refl _) _).alloc (by simp) _
  simp only [World.size_alloc] at K1
  go_wp2_with fail
  generalize ((w.alloc (.cells #[.int .i64 24, .int .i64 (-149), .int .i64 104] 85)).alloc (.cells #[.int .i64 3, .bool false, .int .u64 m, .int .i64 e] 25)) = W at *
  have e0 : W.cell? ⟨w.heap.size, 0, none⟩ = some (.int .i64 24) := K0.at 0
  have e1 : W.cell? ⟨w.heap.size, 1, none⟩ = some (.int .i64 (-149)) := K0.at 1
  have e2 : W.cell? ⟨w.heap.size, 2, none⟩ = some (.int .i64 104) := K0.at 2
  have c0 : W.cell? ⟨w.heap.size + 1, 0, none⟩ = some (.int .i64 3) := K1.at 0
  have c1 : W.cell? ⟨w.heap.size + 1, 1, none⟩ = some (.bool false) := K1.at 1
  have c2 : W.cell? ⟨w.heap.size + 1, 2, none⟩ = some (.int .u64 m) := K1.at 2
  have c3 : W.cell? ⟨w.heap.size + 1, 3, none⟩ = some (.int .i64 e) := K1.at 3
  have h1 : IntKind.i64.wrap 23 = 23 := by decide
  have h2 : IntKind.u64.wrap 2139095040 = 2139095040 := by decide
  go_region_held3 (fun x => x.cell? ⟨w.heap.size, 0, none⟩ = some (.int .i64 24) ∧ x.cell? ⟨w.heap.size, 1, none⟩ = some (.int .i64 (-149)) ∧ x.cell? ⟨w.heap.size, 2, none⟩ = some (.int .i64 104) ∧ x.cell? ⟨w.heap.size + 1, 0, none⟩ = some (.int .i64 3) ∧ x.cell? ⟨w.heap.size + 1, 1, none⟩ = some (.bool false) ∧ x.cell? ⟨w.heap.size + 1, 2, none⟩ = some (.int .u64 m) ∧ x.cell? ⟨w.heap.size + 1, 3, none⟩ = some (.int .i64 e)) (go_keep) (first
    | (go_at_call 95; refine (topField_s _).mono ?_; rintro e w2 ⟨rfl, b2⟩; replace K0 := K0.below (below_undrew b2) K0.lt; replace K1 := K1.below (below_undrew b2) K1.lt; replace pr := bel pr (below_undrew b2); clear b2; have e0 : w2.cell? ⟨w.heap.size, 0, none⟩ = some (.int .i64 24) := K0.at 0; have e1 : w2.cell? ⟨w.heap.size, 1, none⟩ = some (.int .i64 (-149)) := K0.at 1; have e2 : w2.cell? ⟨w.heap.size, 2, none⟩ = some (.int .i64 104) := K0.at 2; have c0 : w2.cell? ⟨w.heap.size + 1, 0, none⟩ = some (.int .i64 3) := K1.at 0; have c1 : w2.cell? ⟨w.heap.size + 1, 1, none⟩ = some (.bool false) := K1.at 1; have c2 : w2.cell? ⟨w.heap.size + 1, 2, none⟩ = some (.int .u64 m) := K1.at 2; have c3 : w2.cell? ⟨w.heap.size + 1, 3, none⟩ = some (.int .i64 e) := K1.at 3)
    | fail)
  go_wp2_with (first
    | (go_at_call 94; refine (signBit_s _).mono ?_; rintro e w3 ⟨rfl, b3⟩; replace K0 := K0.below b3 K0.lt; replace K1 := K1.below b3 K1.lt; replace pr := bel pr b3; clear b3)
    | fail)
  go_ret
  exact ⟨rfl, pr⟩
set_option maxRecDepth 100000 in
set_option maxHeartbeats 1600000 in
theorem pack_s_inf_neg (m e s : Int) (hs : bits .or .u64 2139095040 2147483648 = s) (w : World) :
    Calls Try.prog 98 #[fmtS, .agg #[.int .i64 3, .bool true, .int .u64 m, .int .i64 e]] w fun e w' => e = .returned (.int .u64 s) ∧ Below w.heap.size w w' := by
  go_enter Try.func98, Try.ntmps98
  have K0 : Blk ((w.alloc (.cells #[.int .i64 24, .int .i64 (-149), .int .i64 104] 85)).alloc (.cells #[.int .i64 3, .bool true, .int .u64 m, .int .i64 e] 25)) w.heap.size #[.int .i64 24, .int .i64 (-149), .int .i64 104] 85 := (Blk.new w _ _).alloc _
  have K1 := Blk.new (w.alloc (.cells #[.int .i64 24, .int .i64 (-149), .int .i64 104] 85)) #[.int .i64 3, .bool true, .int .u64 m, .int .i64 e] 25
  have pr : Below w.heap.size w ((w.alloc (.cells #[.int .i64 24, .int .i64 (-149), .int .i64 104] 85)).alloc (.cells #[.int .i64 3, .bool true, .int .u64 m, .int .i64 e] 25)) := ((Below.refl _ _).alloc (Nat.le_refl _) _).alloc (by simp) _
  simp only [World.size_alloc] at K1
  go_wp2_with fail
  generalize ((w.alloc (.cells #[.int .i64 24, .int .i64 (-149), .int .i64 104] 85)).alloc (.cells #[.int .i64 3, .bool true, .int .u64 m, .int .i64 e] 25)) = W at *
  have e0 : W.cell? ⟨w.heap.size, 0, none⟩ = some (.int .i64 24) := K0.at 0
  have e1 : W.cell? ⟨w.heap.size, 1, none⟩ = some (.int .i64 (-149)) := K0.at 1
  have e2 : W.cell? ⟨w.heap.size, 2, none⟩ = some (.int .i64 104) := K0.at 2
  have c0 : W.cell? ⟨w.heap.size + 1, 0, none⟩ = some (.int .i64 3) := K1.at 0
  have c1 : W.cell? ⟨w.heap.size + 1, 1, none⟩ = some (.bool true) := K1.at 1
  have c2 : W.cell? ⟨w.heap.size + 1, 2, none⟩ = some (.int .u64 m) := K1.at 2
  have c3 : W.cell? ⟨w.heap.size + 1, 3, none⟩ = some (.int .i64 e) := K1.at 3
  have h1 : IntKind.i64.wrap 23 = 23 := by decide
  have h2 : IntKind.u64.wrap 2139095040 = 2139095040 := by decide
  go_region_held3 (fun x => x.cell? ⟨w.heap.size, 0, none⟩ = some (.int .i64 24) ∧ x.cell? ⟨w.heap.size, 1, none⟩ = some (.int .i64 (-149)) ∧ x.cell? ⟨w.heap.size, 2, none⟩ = some (.int .i64 104) ∧ x.cell? ⟨w.heap.size + 1, 0, none⟩ = some (.int .i64 3) ∧ x.cell? ⟨w.heap.size + 1, 1, none⟩ = some (.bool true) ∧ x.cell? ⟨w.heap.size + 1, 2, none⟩ = some (.int .u64 m) ∧ x.cell? ⟨w.heap.size + 1, 3, none⟩ = some (.int .i64 e)) (go_keep) (first
    | (go_at_call 95; refine (topField_s _).mono ?_; rintro e w2 ⟨rfl, b2⟩; replace K0 := K0.below (below_undrew b2) K0.lt; replace K1 := K1.below (below_undrew b2) K1.lt; replace pr := bel pr (below_undrew b2); clear b2; have e0 : w2.cell? ⟨w.heap.size, 0, none⟩ = some (.int .i64 24) := K0.at 0; have e1 : w2.cell? ⟨w.heap.size, 1, none⟩ = some (.int .i64 (-149)) := K0.at 1; have e2 : w2.cell? ⟨w.heap.size, 2, none⟩ = some (.int .i64 104) := K0.at 2; have c0 : w2.cell? ⟨w.heap.size + 1, 0, none⟩ = some (.int .i64 3) := K1.at 0; have c1 : w2.cell? ⟨w.heap.size + 1, 1, none⟩ = some (.bool true) := K1.at 1; have c2 : w2.cell? ⟨w.heap.size + 1, 2, none⟩ = some (.int .u64 m) := K1.at 2; have c3 : w2.cell? ⟨w.heap.size + 1, 3, none⟩ = some (.int .i64 e) := K1.at 3)
    | fail)
  go_wp2_with (first
    | (go_at_call 94; refine (signBit_s _).mono ?_; rintro e w3 ⟨rfl, b3⟩; replace K0 := K0.below b3 K0.lt; replace K1 := K1.below b3 K1.lt; replace pr := bel pr b3; clear b3)
    | fail)
  go_ret
  exact ⟨rfl, pr⟩
set_option maxRecDepth 100000 in
set_option maxHeartbeats 1600000 in
theorem pack_s_none_pos (m e : Int) (w : World) :
    Calls Try.prog 98 #[fmtS, .agg #[.int .i64 4, .bool false, .int .u64 m, .int .i64 e]] w fun e w' => e = .returned (.int .u64 2143289344) ∧ Below w.heap.size w w' := by
  go_enter Try.func98, Try.ntmps98
  have K0 : Blk ((w.alloc (.cells #[.int .i64 24, .int .i64 (-149), .int .i64 104] 85)).alloc (.cells #[.int .i64 4, .bool false, .int .u64 m, .int .i64 e] 25)) w.heap.size #[.int .i64 24, .int .i64 (-149), .int .i64 104] 85 := (Blk.new w _ _).alloc _
  have K1 := Blk.new (w.alloc (.cells #[.int .i64 24, .int .i64 (-149), .int .i64 104] 85)) #[.int .i64 4, .bool false, .int .u64 m, .int .i64 e] 25
  have pr : Below w.heap.size w ((w.alloc (.cells #[.int .i64 24, .int .i64 (-149), .int .i64 104] 85)).alloc (.cells #[.int .i64 4, .bool false, .int .u64 m, .int .i64 e] 25)) := ((Below.refl _ _).alloc (Nat.le_refl _) _).alloc (by simp) _
  simp only [World.size_alloc] at K1
  go_wp2_with fail
  generalize ((w.alloc (.cells #[.int .i64 24, .int .i64 (-149), .int .i64 104] 85)).alloc (.cells #[.int .i64 4, .bool false, .int .u64 m, .int .i64 e] 25)) = W at *
  have e0 : W.cell? ⟨w.heap.size, 0, none⟩ = some (.int .i64 24) := K0.at 0
  have e1 : W.cell? ⟨w.heap.size, 1, none⟩ = some (.int .i64 (-149)) := K0.at 1
  have e2 : W.cell? ⟨w.heap.size, 2, none⟩ = some (.int .i64 104) := K0.at 2
  have c0 : W.cell? ⟨w.heap.size + 1, 0, none⟩ = some (.int .i64 4) := K1.at 0
  have c1 : W.cell? ⟨w.heap.size + 1, 1, none⟩ = some (.bool false) := K1.at 1
  have c2 : W.cell? ⟨w.heap.size + 1, 2, none⟩ = some (.int .u64 m) := K1.at 2
  have c3 : W.cell? ⟨w.heap.size + 1, 3, none⟩ = some (.int .i64 e) := K1.at 3
  have h1 : IntKind.i64.wrap 23 = 23 := by decide
  have h2 : IntKind.u64.wrap 2139095040 = 2139095040 := by decide
  have h3 : bits .or .u64 2139095040 4194304 = 2143289344 := by decide
  go_region_held3 (fun x => x.cell? ⟨w.heap.size, 0, none⟩ = some (.int .i64 24) ∧ x.cell? ⟨w.heap.size, 1, none⟩ = some (.int .i64 (-149)) ∧ x.cell? ⟨w.heap.size, 2, none⟩ = some (.int .i64 104) ∧ x.cell? ⟨w.heap.size + 1, 0, none⟩ = some (.int .i64 4) ∧ x.cell? ⟨w.heap.size + 1, 1, none⟩ = some (.bool false) ∧ x.cell? ⟨w.heap.size + 1, 2, none⟩ = some (.int .u64 m) ∧ x.cell? ⟨w.heap.size + 1, 3, none⟩ = some (.int .i64 e)) (go_keep) (first
    | (go_at_call 95; refine (topField_s _).mono ?_; rintro e w2 ⟨rfl, b2⟩; replace K0 := K0.below b2 K0.lt; replace K1 := K1.below b2 K1.lt; replace pr := bel pr b2; clear b2; have e0 : w2.cell? ⟨w.heap.size, 0, none⟩ = some (.int .i64 24) := K0.at 0; have e1 : w2.cell? ⟨w.heap.size, 1, none⟩ = some (.int .i64 (-149)) := K0.at 1; have e2 : w2.cell? ⟨w.heap.size, 2, none⟩ = some (.int .i64 104) := K0.at 2; have c0 : w2.cell? ⟨w.heap.size + 1, 0, none⟩ = some (.int .i64 4) := K1.at 0; have c1 : w2.cell? ⟨w.heap.size + 1, 1, none⟩ = some (.bool false) := K1.at 1; have c2 : w2.cell? ⟨w.heap.size + 1, 2, none⟩ = some (.int .u64 m) := K1.at 2; have c3 : w2.cell? ⟨w.heap.size + 1, 3, none⟩ = some (.int .i64 e) := K1.at 3)
    | (go_at_call 96; refine (leastNormal_s _).mono ?_; rintro e w2 ⟨rfl, b2⟩; replace K0 := K0.below b2 K0.lt; replace K1 := K1.below b2 K1.lt; replace pr := bel pr b2; clear b2; have e0 : w2.cell? ⟨w.heap.size, 0, none⟩ = some (.int .i64 24) := K0.at 0; have e1 : w2.cell? ⟨w.heap.size, 1, none⟩ = some (.int .i64 (-149)) := K0.at 1; have e2 : w2.cell? ⟨w.heap.size, 2, none⟩ = some (.int .i64 104) := K0.at 2; have c0 : w2.cell? ⟨w.heap.size + 1, 0, none⟩ = some (.int .i64 4) := K1.at 0; have c1 : w2.cell? ⟨w.heap.size + 1, 1, none⟩ = some (.bool false) := K1.at 1; have c2 : w2.cell? ⟨w.heap.size + 1, 2, none⟩ = some (.int .u64 m) := K1.at 2; have c3 : w2.cell? ⟨w.heap.size + 1, 3, none⟩ = some (.int .i64 e) := K1.at 3)
    | (go_at_call 95; refine (topField_s _).mono ?_; rintro e w2 ⟨rfl, b2⟩; replace K0 := K0.below (below_undrew b2) K0.lt; replace K1 := K1.below (below_undrew b2) K1.lt; replace pr := bel pr (below_undrew b2); clear b2; have e0 : w2.cell? ⟨w.heap.size, 0, none⟩ = some (.int .i64 24) := K0.at 0; have e1 : w2.cell? ⟨w.heap.size, 1, none⟩ = some (.int .i64 (-149)) := K0.at 1; have e2 : w2.cell? ⟨w.heap.size, 2, none⟩ = some (.int .i64 104) := K0.at 2; have c0 : w2.cell? ⟨w.heap.size + 1, 0, none⟩ = some (.int .i64 4) := K1.at 0; have c1 : w2.cell? ⟨w.heap.size + 1, 1, none⟩ = some (.bool false) := K1.at 1; have c2 : w2.cell? ⟨w.heap.size + 1, 2, none⟩ = some (.int .u64 m) := K1.at 2; have c3 : w2.cell? ⟨w.heap.size + 1, 3, none⟩ = some (.int .i64 e) := K1.at 3)
    | (go_at_call 96; refine (leastNormal_s _).mono ?_; rintro e w2 ⟨rfl, b2⟩; replace K0 := K0.below (below_undrew b2) K0.lt; replace K1 := K1.below (below_undrew b2) K1.lt; replace pr := bel pr (below_undrew b2); clear b2; have e0 : w2.cell? ⟨w.heap.size, 0, none⟩ = some (.int .i64 24) := K0.at 0; have e1 : w2.cell? ⟨w.heap.size, 1, none⟩ = some (.int .i64 (-149)) := K0.at 1; have e2 : w2.cell? ⟨w.heap.size, 2, none⟩ = some (.int .i64 104) := K0.at 2; have c0 : w2.cell? ⟨w.heap.size + 1, 0, none⟩ = some (.int .i64 4) := K1.at 0; have c1 : w2.cell? ⟨w.heap.size + 1, 1, none⟩ = some (.bool false) := K1.at 1; have c2 : w2.cell? ⟨w.heap.size + 1, 2, none⟩ = some (.int .u64 m) := K1.at 2; have c3 : w2.cell? ⟨w.heap.size + 1, 3, none⟩ = some (.int .i64 e) := K1.at 3)
    | fail)
  go_wp2_with (first
    | (go_at_call 94; refine (signBit_s _).mono ?_; rintro e w3 ⟨rfl, b3⟩; replace K0 := K0.below b3 K0.lt; replace K1 := K1.below b3 K1.lt; replace pr := bel pr b3; clear b3)
    | fail)
  go_ret
  exact ⟨rfl, pr⟩
set_option maxRecDepth 100000 in
set_option maxHeartbeats 1600000 in
theorem pack_s_none_neg (m e s : Int) (hs : bits .or .u64 2143289344 2147483648 = s) (w : World) :
    Calls Try.prog 98 #[fmtS, .agg #[.int .i64 4, .bool true, .int .u64 m, .int .i64 e]] w fun e w' => e = .returned (.int .u64 s) ∧ Below w.heap.size w w' := by
  go_enter Try.func98, Try.ntmps98
  have K0 : Blk ((w.alloc (.cells #[.int .i64 24, .int .i64 (-149), .int .i64 104] 85)).alloc (.cells #[.int .i64 4, .bool true, .int .u64 m, .int .i64 e] 25)) w.heap.size #[.int .i64 24, .int .i64 (-149), .int .i64 104] 85 := (Blk.new w _ _).alloc _
  have K1 := Blk.new (w.alloc (.cells #[.int .i64 24, .int .i64 (-149), .int .i64 104] 85)) #[.int .i64 4, .bool true, .int .u64 m, .int .i64 e] 25
  have pr : Below w.heap.size w ((w.alloc (.cells #[.int .i64 24, .int .i64 (-149), .int .i64 104] 85)).alloc (.cells #[.int .i64 4, .bool true, .int .u64 m, .int .i64 e] 25)) := ((Below.refl _ _).alloc (Nat.le_refl _) _).alloc (by simp) _
  simp only [World.size_alloc] at K1
  go_wp2_with fail
  generalize ((w.alloc (.cells #[.int .i64 24, .int .i64 (-149), .int .i64 104] 85)).alloc (.cells #[.int .i64 4, .bool true, .int .u64 m, .int .i64 e] 25)) = W at *
  have e0 : W.cell? ⟨w.heap.size, 0, none⟩ = some (.int .i64 24) := K0.at 0
  have e1 : W.cell? ⟨w.heap.size, 1, none⟩ = some (.int .i64 (-149)) := K0.at 1
  have e2 : W.cell? ⟨w.heap.size, 2, none⟩ = some (.int .i64 104) := K0.at 2
  have c0 : W.cell? ⟨w.heap.size + 1, 0, none⟩ = some (.int .i64 4) := K1.at 0
  have c1 : W.cell? ⟨w.heap.size + 1, 1, none⟩ = some (.bool true) := K1.at 1
  have c2 : W.cell? ⟨w.heap.size + 1, 2, none⟩ = some (.int .u64 m) := K1.at 2
  have c3 : W.cell? ⟨w.heap.size + 1, 3, none⟩ = some (.int .i64 e) := K1.at 3
  have h1 : IntKind.i64.wrap 23 = 23 := by decide
  have h2 : IntKind.u64.wrap 2139095040 = 2139095040 := by decide
  have h3 : bits .or .u64 2139095040 4194304 = 2143289344 := by decide
  go_region_held3 (fun x => x.cell? ⟨w.heap.size, 0, none⟩ = some (.int .i64 24) ∧ x.cell? ⟨w.heap.size, 1, none⟩ = some (.int .i64 (-149)) ∧ x.cell? ⟨w.heap.size, 2, none⟩ = some (.int .i64 104) ∧ x.cell? ⟨w.heap.size + 1, 0, none⟩ = some (.int .i64 4) ∧ x.cell? ⟨w.heap.size + 1, 1, none⟩ = some (.bool true) ∧ x.cell? ⟨w.heap.size + 1, 2, none⟩ = some (.int .u64 m) ∧ x.cell? ⟨w.heap.size + 1, 3, none⟩ = some (.int .i64 e)) (go_keep) (first
    | (go_at_call 95; refine (topField_s _).mono ?_; rintro e w2 ⟨rfl, b2⟩; replace K0 := K0.below b2 K0.lt; replace K1 := K1.below b2 K1.lt; replace pr := bel pr b2; clear b2; have e0 : w2.cell? ⟨w.heap.size, 0, none⟩ = some (.int .i64 24) := K0.at 0; have e1 : w2.cell? ⟨w.heap.size, 1, none⟩ = some (.int .i64 (-149)) := K0.at 1; have e2 : w2.cell? ⟨w.heap.size, 2, none⟩ = some (.int .i64 104) := K0.at 2; have c0 : w2.cell? ⟨w.heap.size + 1, 0, none⟩ = some (.int .i64 4) := K1.at 0; have c1 : w2.cell? ⟨w.heap.size + 1, 1, none⟩ = some (.bool true) := K1.at 1; have c2 : w2.cell? ⟨w.heap.size + 1, 2, none⟩ = some (.int .u64 m) := K1.at 2; have c3 : w2.cell? ⟨w.heap.size + 1, 3, none⟩ = some (.int .i64 e) := K1.at 3)
    | (go_at_call 96; refine (leastNormal_s _).mono ?_; rintro e w2 ⟨rfl, b2⟩; replace K0 := K0.below b2 K0.lt; replace K1 := K1.below b2 K1.lt; replace pr := bel pr b2; clear b2; have e0 : w2.cell? ⟨w.heap.size, 0, none⟩ = some (.int .i64 24) := K0.at 0; have e1 : w2.cell? ⟨w.heap.size, 1, none⟩ = some (.int .i64 (-149)) := K0.at 1; have e2 : w2.cell? ⟨w.heap.size, 2, none⟩ = some (.int .i64 104) := K0.at 2; have c0 : w2.cell? ⟨w.heap.size + 1, 0, none⟩ = some (.int .i64 4) := K1.at 0; have c1 : w2.cell? ⟨w.heap.size + 1, 1, none⟩ = some (.bool true) := K1.at 1; have c2 : w2.cell? ⟨w.heap.size + 1, 2, none⟩ = some (.int .u64 m) := K1.at 2; have c3 : w2.cell? ⟨w.heap.size + 1, 3, none⟩ = some (.int .i64 e) := K1.at 3)
    | (go_at_call 95; refine (topField_s _).mono ?_; rintro e w2 ⟨rfl, b2⟩; replace K0 := K0.below (below_undrew b2) K0.lt; replace K1 := K1.below (below_undrew b2) K1.lt; replace pr := bel pr (below_undrew b2); clear b2; have e0 : w2.cell? ⟨w.heap.size, 0, none⟩ = some (.int .i64 24) := K0.at 0; have e1 : w2.cell? ⟨w.heap.size, 1, none⟩ = some (.int .i64 (-149)) := K0.at 1; have e2 : w2.cell? ⟨w.heap.size, 2, none⟩ = some (.int .i64 104) := K0.at 2; have c0 : w2.cell? ⟨w.heap.size + 1, 0, none⟩ = some (.int .i64 4) := K1.at 0; have c1 : w2.cell? ⟨w.heap.size + 1, 1, none⟩ = some (.bool true) := K1.at 1; have c2 : w2.cell? ⟨w.heap.size + 1, 2, none⟩ = some (.int .u64 m) := K1.at 2; have c3 : w2.cell? ⟨w.heap.size + 1, 3, none⟩ = some (.int .i64 e) := K1.at 3)
    | (go_at_call 96; refine (leastNormal_s _).mono ?_; rintro e w2 ⟨rfl, b2⟩; replace K0 := K0.below (below_undrew b2) K0.lt; replace K1 := K1.below (below_undrew b2) K1.lt; replace pr := bel pr (below_undrew b2); clear b2; have e0 : w2.cell? ⟨w.heap.size, 0, none⟩ = some (.int .i64 24) := K0.at 0; have e1 : w2.cell? ⟨w.heap.size, 1, none⟩ = some (.int .i64 (-149)) := K0.at 1; have e2 : w2.cell? ⟨w.heap.size, 2, none⟩ = some (.int .i64 104) := K0.at 2; have c0 : w2.cell? ⟨w.heap.size + 1, 0, none⟩ = some (.int .i64 4) := K1.at 0; have c1 : w2.cell? ⟨w.heap.size + 1, 1, none⟩ = some (.bool true) := K1.at 1; have c2 : w2.cell? ⟨w.heap.size + 1, 2, none⟩ = some (.int .u64 m) := K1.at 2; have c3 : w2.cell? ⟨w.heap.size + 1, 3, none⟩ = some (.int .i64 e) := K1.at 3)
    | fail)
  go_wp2_with (first
    | (go_at_call 94; refine (signBit_s _).mono ?_; rintro e w3 ⟨rfl, b3⟩; replace K0 := K0.below b3 K0.lt; replace K1 := K1.below b3 K1.lt; replace pr := bel pr b3; clear b3)
    | fail)
  go_ret
  exact ⟨rfl, pr⟩
set_option maxRecDepth 100000 in
set_option maxHeartbeats 1600000 in
theorem pack_s_else_pos (k m e : Int) (k1 : (k == 1) = false) (k2 : (k == 2) = false) (k3 : (k == 3) = false) (k4 : (k == 4) = false) (w : World) :
    Calls Try.prog 98 #[fmtS, .agg #[.int .i64 k, .bool false, .int .u64 m, .int .i64 e]] w fun e w' => e = .returned (.int .u64 0) ∧ Below w.heap.size w w' := by
  go_enter Try.func98, Try.ntmps98
  have K0 : Blk ((w.alloc (.cells #[.int .i64 24, .int .i64 (-149), .int .i64 104] 85)).alloc (.cells #[.int .i64 k, .bool false, .int .u64 m, .int .i64 e] 25)) w.heap.size #[.int .i64 24, .int .i64 (-149), .int .i64 104] 85 := (Blk.new w _ _).alloc _
  have K1 := Blk.new (w.alloc (.cells #[.int .i64 24, .int .i64 (-149), .int .i64 104] 85)) #[.int .i64 k, .bool false, .int .u64 m, .int .i64 e] 25
  have pr : Below w.heap.size w ((w.alloc (.cells #[.int .i64 24, .int .i64 (-149), .int .i64 104] 85)).alloc (.cells #[.int .i64 k, .bool false, .int .u64 m, .int .i64 e] 25)) := ((Below.refl _ _).alloc (Nat.le_refl _) _).alloc (by simp) _
  simp only [World.size_alloc] at K1
  go_wp2_with (first
    | (go_at_call 94; refine (signBit_s _).mono ?_; rintro e w3 ⟨rfl, b3⟩; replace K0 := K0.below b3 K0.lt; replace K1 := K1.below b3 K1.lt; replace pr := bel pr b3; clear b3)
    | fail)
  go_ret
  exact ⟨rfl, pr⟩
set_option maxRecDepth 100000 in
set_option maxHeartbeats 1600000 in
theorem pack_s_else_neg (k m e s : Int) (k1 : (k == 1) = false) (k2 : (k == 2) = false) (k3 : (k == 3) = false) (k4 : (k == 4) = false) (hs : bits .or .u64 0 2147483648 = s) (w : World) :
    Calls Try.prog 98 #[fmtS, .agg #[.int .i64 k, .bool true, .int .u64 m, .int .i64 e]] w fun e w' => e = .returned (.int .u64 s) ∧ Below w.heap.size w w' := by
  go_enter Try.func98, Try.ntmps98
  have K0 : Blk ((w.alloc (.cells #[.int .i64 24, .int .i64 (-149), .int .i64 104] 85)).alloc (.cells #[.int .i64 k, .bool true, .int .u64 m, .int .i64 e] 25)) w.heap.size #[.int .i64 24, .int .i64 (-149), .int .i64 104] 85 := (Blk.new w _ _).alloc _
  have K1 := Blk.new (w.alloc (.cells #[.int .i64 24, .int .i64 (-149), .int .i64 104] 85)) #[.int .i64 k, .bool true, .int .u64 m, .int .i64 e] 25
  have pr : Below w.heap.size w ((w.alloc (.cells #[.int .i64 24, .int .i64 (-149), .int .i64 104] 85)).alloc (.cells #[.int .i64 k, .bool true, .int .u64 m, .int .i64 e] 25)) := ((Below.refl _ _).alloc (Nat.le_refl _) _).alloc (by simp) _
  simp only [World.size_alloc] at K1
  go_wp2_with (first
    | (go_at_call 94; refine (signBit_s _).mono ?_; rintro e w3 ⟨rfl, b3⟩; replace K0 := K0.below b3 K0.lt; replace K1 := K1.below b3 K1.lt; replace pr := bel pr b3; clear b3)
    | fail)
  go_ret
  exact ⟨rfl, pr⟩
end Go.Proofs.Ytlngkonmalallaa
